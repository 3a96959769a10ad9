import Derived.Test.YtnlgndpcddngoaaGreatDoorZc37
import Derived.Test.YtnlgndpcddngoaaGreatDoorZc38
import Derived.Test.YtnlgndpcddngoaaGreatDoorZc39
import Derived.Test.YtnlgndpcddngoaaGreatDoorZc28
import Derived.Test.YtnlgndpcddngoaaGreatDoorZc00
set_option linter.unusedSectionVars false
namespace Go.Proofs.YtnlgndpcddngoaaGreatDoor
open Go.RowKit Go.Maps
variable [dK] [iK]

theorem putG_new {k : Ky} {v : Qt × Qt} {es : Es} (h : fndG k es = none) : putG k v es = es ++ [(k, v)] := by unfold putG; rw [h]; rfl
theorem putG_old {k : Ky} {v : Qt × Qt} {es : Es} (h : (fndG k es).isSome = true) : putG k v es = updG k v es := by unfold putG; rw [if_pos h]
theorem putG_key {k : Ky} {v : Qt × Qt} {es : Es} (hk : k.ok) (h : ∀ p ∈ es, p.1.ok) : ∀ p ∈ putG k v es, p.1.ok := fun p hp => by
  rcases mem_putG hp with h1 | rfl
  · exact h p h1
  · exact hk
theorem putG_qt {k : Ky} {v : Qt × Qt} {es : Es} (hk : v.1.ok) (h : ∀ p ∈ es, p.2.1.ok) : ∀ p ∈ putG k v es, p.2.1.ok := fun p hp => by
  rcases mem_putG hp with h1 | rfl
  · exact h p h1
  · exact hk
theorem putG_fit {k : Ky} {v : Qt × Qt} {es : Es} (hk : v.2.fit) (h : ∀ p ∈ es, p.2.2.fit) : ∀ p ∈ putG k v es, p.2.2.fit := fun p hp => by
  rcases mem_putG hp with h1 | rfl
  · exact h p h1
  · exact hk

theorem putG_res {blk : Int} {k : Ky} {v : Qt × Qt} {es : Es} (hv : Res blk v.1 v.2) (h : ∀ p ∈ es, Res blk p.2.1 p.2.2) : ∀ p ∈ putG k v es, Res blk p.2.1 p.2.2 := fun p hp => by
  rcases mem_putG hp with h1 | rfl
  · exact h p h1
  · exact hv
theorem putG_wnd {time : Int} {k : Ky} {v : Qt × Qt} {es : Es} (hv : v.2.kd = 2 → v.2.wn ≤ time / v.2.y) (h : ∀ p ∈ es, p.2.2.kd = 2 → p.2.2.wn ≤ time / p.2.2.y) : ∀ p ∈ putG k v es, p.2.2.kd = 2 → p.2.2.wn ≤ time / p.2.2.y := fun p hp => by
  rcases mem_putG hp with h1 | rfl
  · exact h p h1
  · exact hv
/-- What is held of a key is as it was, where only what stands is turned. -/
theorem heldOf_put {k : Ky} {z z2 zq : Qt} {es : Es} (hg : fndG k es = some (z, z2)) (k' : Ky) : heldOf es k' = heldOf (putG k (zq, z2) es) k' := by
  unfold heldOf
  by_cases h : k' = k
  · subst h
    rw [fndG_put_same, hg]
    rfl
  · rw [fndG_put_other _ _ h]
theorem Dur.cover {time blk : Int} {es : Es} {turn : Int} {fs : Fs} {k : Ky} {z z2 zq : Qt} (h : Dur time blk es turn fs) (hg : fndG k es = some (z, z2)) (hr : Res blk zq z2) : Dur time blk (putG k (zq, z2) es) turn fs := by
  have old : (fndG k es).isSome = true := by rw [hg]; rfl
  refine ⟨putG_res hr h.res, ?_, h.old⟩
  rcases h.img with ⟨h1, h2⟩ | ⟨tm, ks, a, h1, h2, h3, h4, h5⟩
  · rw [h2] at hg
    simp [fndG] at hg
  · refine Or.inr ⟨tm, ks, a, ?_, h2, h3, ?_, putG_wnd (h5 _ (fndG_mem hg)) h5⟩
    · rw [putG_old old, mapG_upd]
      exact h1
    · rw [← imgB_congr turn tm es (putG k (zq, z2) es) ks (fun k' _ => heldOf_put hg k')]
      exact h4

theorem book_define (st : Int) (sb db k : Nat) (c : Led) (F : Nat → Prop) (q : Rq) (w : World) (hop : q.op = 1) (hq : q.ok) (hL : LedAt w st sb db (k + 2) c F) (hc : c.ok) :
    Calls Tryz.prog 109 #[.pointer (some ⟨sb, 2, none⟩), .agg #[.int .u8 q.k0, .int .u8 q.k1, .int .u8 q.k2, .int .u8 q.k3, .int .u8 q.k4, .int .u8 q.k5, .int .u8 q.k6, .int .u8 q.k7], .agg #[.int .u8 q.kd, .int .u64 q.x, .int .u64 q.y]] w fun e w' => e = .returned (.agg #[.int .u8 (doM c.ld q).2.c, .int .u64 (doM c.ld q).2.a, .int .u64 (doM c.ld q).2.b]) ∧ OutQ w st sb db k c F (doM c.ld q).1 w' := by
  obtain ⟨mp, g, FD, m1, m2, _⟩ := hL.mem
  by_cases hso : soundM q.kd q.x q.y
  · cases hf : fnd q.key (stands c.es) with
    | some z =>
      obtain ⟨z2, hg⟩ := fndG_of' hf
      have e : doM c.ld q = (c.ld, ⟨9, 0, 0⟩) := by unfold doM; rw [if_pos hop, if_neg (not_not_intro hso), if_pos (by show (fnd q.key (stands c.es)).isSome = true; rw [hf]; rfl)]
      rw [e]
      refine (bdef_exists sb mp _ _ _ _ c.time c.blk c.es q.key w m1 m2 hq.key q.kd q.x q.y hso z z2 hg).mono ?_
      rintro e w' ⟨rfl, hb⟩
      exact ⟨rfl, OutQ.same hc hL hb⟩
    | none =>
      have hn : ¬ (fnd q.key c.ld.ks).isSome = true := by show ¬ (fnd q.key (stands c.es)).isSome = true; rw [hf]; simp
      have hlen : c.ld.ks.length = c.es.length := len_stands c.es
      by_cases hl : 12 ≤ c.es.length
      · have e : doM c.ld q = (c.ld, ⟨5, 0, 0⟩) := by unfold doM; rw [if_pos hop, if_neg (not_not_intro hso), if_neg hn, if_pos (by omega)]
        rw [e]
        refine (bdef_full sb mp _ _ _ _ c.time c.blk c.es q.key w m1 m2 hq.key q.kd q.x q.y hso (fndG_of hf) hl).mono ?_
        rintro e w' ⟨rfl, hb⟩
        exact ⟨rfl, OutQ.same hc hL hb⟩
      · have e : doM c.ld q = (⟨c.time, c.adm, stands c.es ++ [(q.key, ⟨q.kd, q.x, q.y, 0, 0⟩)]⟩, ⟨1, 0, 0⟩) := by unfold doM; rw [if_pos hop, if_neg (not_not_intro hso), if_neg hn, if_neg (by omega)]; rfl
        rw [e]
        have hqt : (⟨q.kd, q.x, q.y, 0, 0⟩ : Qt).ok := ⟨hso, hq.x, hq.y, by simp, by simp⟩
        have nd : ((putG q.key ((⟨q.kd, q.x, q.y, 0, 0⟩ : Qt), (⟨q.kd, q.x, q.y, 0, 0⟩ : Qt)) c.es).map Prod.fst).Nodup := putG_nodup hc.nd
        have len : (putG q.key ((⟨q.kd, q.x, q.y, 0, 0⟩ : Qt), (⟨q.kd, q.x, q.y, 0, 0⟩ : Qt)) c.es).length ≤ 12 := Nat.le_trans (putG_length _ _ _) (by omega)
        refine (bdef_new sb mp _ _ _ _ c.time c.blk c.es q.key w m1 m2 hq.key q.kd q.x q.y hso (fndG_of hf) (by omega) st db k c F (hide (fun w1 hb => hL.below hb (Nat.le_refl _))) hL.lt (ledKeep st sb db k hc 1 0 0 nd (putG_key hq.key hc.key) (putG_fit hqt.fit hc.fit) len)).mono ?_
        rintro e w' ⟨rfl, c', hK, hO⟩
        refine ⟨rfl, c', hK.ok hc nd (putG_key hq.key hc.key) (putG_qt hqt hc.qt) (putG_fit hqt.fit hc.fit) len (putG_res (Res.same hqt hc.blk.1) hc.dur.res) (putG_wnd (fun hk => Int.ediv_nonneg hc.time.1 hq.y.1) hc.dur.wnd), ?_, hK.blk, hO⟩
        rw [hK.ld, putG_new (fndG_of hf), app_stands]
  · have e : doM c.ld q = (c.ld, ⟨8, 0, 0⟩) := by unfold doM; rw [if_pos hop, if_pos hso]
    rw [e]
    cases hf : fnd q.key (stands c.es) with
    | some z =>
      obtain ⟨z2, hg⟩ := fndG_of' hf
      refine (bdef_bad1 sb mp _ _ _ _ c.time c.blk c.es q.key w m1 m2 hq.key q.kd q.x q.y hso z z2 hg).mono ?_
      rintro e w' ⟨rfl, hb⟩
      exact ⟨rfl, OutQ.same hc hL hb⟩
    | none =>
      refine (bdef_bad0 sb mp _ _ _ _ c.time c.blk c.es q.key w m1 m2 hq.key q.kd q.x q.y hso (fndG_of hf)).mono ?_
      rintro e w' ⟨rfl, hb⟩
      exact ⟨rfl, OutQ.same hc hL hb⟩

/-- What the book says to an Admit, and how it stands behind it (the count is the server's). -/
def admB (L : Ld) (q : Rq) : Ld × Rp :=
  match fnd q.key L.ks with
  | none => (L, ⟨4, 0, 0⟩)
  | some z => (⟨L.time, L.adm, upd q.key (admM z L.time q.n).1 L.ks⟩, (admM z L.time q.n).2)

/-- The keys are turned in their place. -/
theorem LedAt.turn {w w' : World} {st : Int} {sb db k mp : Nat} {c : Led} {F : Nat → Prop} {es : Es} (h : LedAt w st sb db k c F) (hs : ∃ s0 s1 s2 s3 s5 s6, w.heap[sb]? = some (.cells #[s0, s1, s2, s3, .map (some mp), s5, s6] 130)) (hm : MapE w' mp es) (hk : Keep (fun b => b = mp) w w') : OutL w st sb db k ⟨c.time, c.adm, c.blk, es, c.turn, c.fsD, c.fsN⟩ F w' := by
  obtain ⟨mp2, g, FD, h1, h2, h3, h4, h5, h6, h7, h8, h9, h10, h11, h12, h13⟩ := h.mem
  obtain ⟨s0, s1, s2, s3, s5, s6, hs⟩ := hs
  have e : mp2 = mp := by
    rw [h1] at hs
    simp at hs
    exact hs.2.2.2.2.1
  subst e
  refine ⟨F, ⟨⟨mp2, g, FD, (hk.block sb (h.lt sb h.own) h13).trans h1, hm, h3.kept (hk.block g (h.lt g h7) (fun e => h10 e.symm)), h4.kept hk.size (fun b hb => hk.block b (h.lt b (h5 b hb)) (fun e => h9 (e ▸ hb))), h5, h6, h7, h8, h9, h10, h11, h12, h13⟩, h.own, fun b hb => Nat.lt_of_lt_of_le (h.lt b hb) hk.size⟩, hk.mono (fun b e _ => e ▸ h6), fun b hb => Or.inl hb⟩

theorem book_adm (st : Int) (sb db k : Nat) (c : Led) (F : Nat → Prop) (q : Rq) (w : World) (hq : q.ok) (hL : LedAt w st sb db (k + 2) c F) (hc : c.ok) :
    Calls Tryz.prog 111 #[.pointer (some ⟨sb, 2, none⟩), .agg #[.int .u8 q.k0, .int .u8 q.k1, .int .u8 q.k2, .int .u8 q.k3, .int .u8 q.k4, .int .u8 q.k5, .int .u8 q.k6, .int .u8 q.k7], .int .u64 q.n] w fun e w' => e = .returned (.agg #[.int .u8 (admB c.ld q).2.c, .int .u64 (admB c.ld q).2.a, .int .u64 (admB c.ld q).2.b]) ∧ OutQ w st sb db k c F (admB c.ld q).1 w' := by
  obtain ⟨mp, g, FD, m1, m2, _⟩ := hL.mem
  cases hf : fnd q.key (stands c.es) with
  | none =>
    have e : admB c.ld q = (c.ld, ⟨4, 0, 0⟩) := by
      unfold admB
      show (match fnd q.key (stands c.es) with | none => _ | some z => _) = _
      rw [hf]
    rw [e]
    refine (badmit_none sb mp _ _ _ _ c.time c.blk c.es q.key w m1 m2 hq.key (fndG_of hf) q.n).mono ?_
    rintro e w' ⟨rfl, hb⟩
    exact ⟨rfl, OutQ.same hc hL hb⟩
  | some z =>
    obtain ⟨z2, hg⟩ := fndG_of' hf
    have hz : z.ok := hc.qt _ (fndG_mem hg)
    have hz2 : z2.fit := hc.fit _ (fndG_mem hg)
    have e : admB c.ld q = (⟨c.time, c.adm, upd q.key (admM z c.time q.n).1 (stands c.es)⟩, (admM z c.time q.n).2) := by
      unfold admB
      show (match fnd q.key (stands c.es) with | none => _ | some z => _) = _
      rw [hf]; rfl
    rw [e]
    obtain ⟨a1, a2, a3⟩ := admQ_ok z c.time q.n hz hc.time.1 hc.time.2 hq.n.1
    have hfc := admQ_facts z c.time q.n hz hq.n.1
    have hrs : Res c.blk z z2 := hc.dur.res _ (fndG_mem hg)
    have hqa := fun w1 => qadmit_any z c.time q.n w1 hz hc.time.1 hc.time.2 hq.n.1 hq.n.2 _ rfl
    unfold admM
    by_cases hin : (admQ z c.time q.n).2.c = 2 ∧ q.n ≠ 0
    · rw [if_pos hin]
      generalize admQ z c.time q.n = zr at a1 a2 a3 hqa hin hfc
      obtain ⟨zq, zc, za, zb⟩ := zr
      obtain ⟨h2, hn⟩ := hin
      have h2 : zc = 2 := h2
      subst h2
      obtain ⟨f1, f2, f3, f4, f5, f6⟩ := hfc rfl
      dsimp only at f1 f2 f3 f4 f5 f6
      have hcov := fun w1 => qcovers z2 zq w1
      have old : (fndG q.key c.es).isSome = true := by rw [hg]; rfl
      cases hcv : coversM z2 zq with
      | true =>
        rw [hcv] at hcov
        refine (badmit_cov sb mp _ _ _ _ c.time c.blk c.es q.key w m1 m2 hq.key z z2 hg q.n zq 2 za zb (hide hqa) (hide rfl) hn hc.len (MapG.lt m2) (hide hcov)).mono ?_
        rintro e w' ⟨rfl, hm, hk⟩
        refine ⟨rfl, ⟨c.time, c.adm, c.blk, putG q.key (zq, z2) c.es, c.turn, c.fsD, c.fsN⟩, ⟨hc.time, hc.adm, hc.blk, hc.turn, putG_nodup hc.nd, putG_key hq.key hc.key, putG_qt (v := (zq, z2)) a1 hc.qt, putG_fit (v := (zq, z2)) hz2 hc.fit, ?_, hc.dur.cover hg ⟨hrs.ok, hrs.kd.trans f1.symm, hrs.x.trans f2.symm, hrs.y.trans f3.symm, ?_, ?_, ?_⟩⟩, ?_, rfl, (hL.less (by omega)).turn ⟨_, _, _, _, _, _, m1⟩ hm hk⟩
        · show (putG q.key (zq, z2) c.es).length ≤ 12
          rw [putG_old old, lengthG_upd]; exact hc.len
        · unfold coversM at hcv
          simp at hcv
          exact hcv.1.symm
        · unfold coversM at hcv
          simp at hcv
          exact hcv.2
        · unfold coversM at hcv
          simp at hcv
          have e1 := f5 (hcv.1.trans hrs.wn)
          have e2 := hrs.up
          show z2.lv ≤ zq.lv + c.blk
          omega
        · show (⟨c.time, c.adm, stands (putG q.key (zq, z2) c.es)⟩ : Ld) = _
          rw [putG_old old, upd_stands]
      | false =>
        rw [hcv] at hcov
        have hah : (aheadM zq c.blk).ok := aheadM_ok zq c.blk a1 hc.blk.1
        have nd : ((putG q.key (zq, aheadM zq c.blk) c.es).map Prod.fst).Nodup := putG_nodup hc.nd
        have len : (putG q.key (zq, aheadM zq c.blk) c.es).length ≤ 12 := by rw [putG_old old, lengthG_upd]; exact hc.len
        refine (badmit_far sb mp _ _ _ _ c.time c.blk c.es q.key w m1 m2 hq.key z z2 hg q.n zq za zb (hide hqa) hn hc.len (hide hcov) (aheadM zq c.blk) (hide (fun w1 => qahead_any zq c.blk w1 a1 hc.blk)) st db k c F rfl (hide (fun w1 hb => hL.below hb (Nat.le_refl _))) hL.lt (ledKeep st sb db k hc 2 za zb nd (putG_key hq.key hc.key) (putG_fit hah.fit hc.fit) len)).mono ?_
        rintro e w' ⟨rfl, c', hK, hO⟩
        refine ⟨rfl, c', hK.ok hc nd (putG_key hq.key hc.key) (putG_qt a1 hc.qt) (putG_fit hah.fit hc.fit) len (putG_res (aheadM_res zq c.blk a1 hc.blk.1 f4) hc.dur.res) (putG_wnd (v := (zq, aheadM zq c.blk)) (fun hk => by
          have hr := aheadM_res zq c.blk a1 hc.blk.1 f4
          have e1 : (aheadM zq c.blk).wn = zq.wn := hr.wn
          have e2 : (aheadM zq c.blk).y = z.y := hr.y.trans f3
          have e3 : z.kd ≠ 1 := fun e => by have h1 : (aheadM zq c.blk).kd = 1 := (hr.kd.trans f1).trans e; have h2 : (aheadM zq c.blk).kd = 2 := hk; omega
          show (aheadM zq c.blk).wn ≤ c.time / (aheadM zq c.blk).y
          rw [e1, e2, f6 e3]
          exact Int.le_refl _) hc.dur.wnd), ?_, hK.blk, hO⟩
        rw [hK.ld, putG_old old, upd_stands]
    · rw [if_neg hin, upd_same hf]
      clear hfc
      generalize admQ z c.time q.n = zr at a1 a2 a3 hqa hin
      obtain ⟨zq, zc, za, zb⟩ := zr
      have hno : zc ≠ 2 ∨ q.n = 0 := by
        by_cases h : zc = 2
        · exact Or.inr (Decidable.byContradiction fun hn => hin ⟨h, hn⟩)
        · exact Or.inl h
      refine (badmit_low sb mp _ _ _ _ c.time c.blk c.es q.key w m1 m2 hq.key z z2 hg q.n zq zc za zb (hide hqa) hno).mono ?_
      rintro e w' ⟨rfl, hb⟩
      exact ⟨rfl, OutQ.same hc hL hb⟩
end Go.Proofs.YtnlgndpcddngoaaGreatDoor

namespace Go.Proofs.YtnlgndpcddngoaaGreatDoor
open Go.RowKit Go.Maps
variable [dK] [iK]

theorem OutL.fin {w W w' : World} {st : Int} {sb db kk : Nat} {c : Led} {F F' : Nat → Prop} (hB : Below w.heap.size w W) (hr : w.heap.size + 1 < W.heap.size) (hF : ∀ b, F b → b < w.heap.size) (h1 : LedAt w' st sb db kk c F') (h2 : Keep F W w') (h3 : ∀ b, F' b → F b ∨ W.heap.size ≤ b) (rc ra rb : Int) :
    OutL w st sb db kk c F (((w'.setCell ⟨w.heap.size + 1, 0, none⟩ (.int .u8 rc)).setCell ⟨w.heap.size + 1, 1, none⟩ (.int .u64 ra)).setCell ⟨w.heap.size + 1, 2, none⟩ (.int .u64 rb)) :=
  finOut rc ra rb h1 (Keep.then (S := F) (Keep.of_below hB) h2 (fun _ _ h => h)) hF (by omega) (fun b hb => (h3 b hb).imp_right (fun h => by omega))

set_option maxRecDepth 100000 in
set_option maxHeartbeats 4000000 in
theorem do_query (sb : Nat) (st : Int) (db kk : Nat) (cc : Led) (L' : Ld) (F : Nat → Prop) (q : Rq) (c a b : Int) (w : World) (hop : q.op = 3) (hS : LedAt w st sb db (kk + 2) cc F)
    (hc : Hid (∀ w1, LedAt w1 st sb db (kk + 2) cc F → Calls Tryz.prog 112 #[.pointer (some ⟨sb, 2, none⟩), .agg #[.int .u8 q.k0, .int .u8 q.k1, .int .u8 q.k2, .int .u8 q.k3, .int .u8 q.k4, .int .u8 q.k5, .int .u8 q.k6, .int .u8 q.k7]] w1 fun e w' => e = .returned (.agg #[.int .u8 c, .int .u64 a, .int .u64 b]) ∧ OutQ w1 st sb db kk cc F L' w')) :
    Calls Tryz.prog 74 #[.pointer (some ⟨sb, 0, none⟩), .agg #[.int .u8 q.op, .int .u8 q.k0, .int .u8 q.k1, .int .u8 q.k2, .int .u8 q.k3, .int .u8 q.k4, .int .u8 q.k5, .int .u8 q.k6, .int .u8 q.k7, .int .u8 q.kd, .int .u64 q.x, .int .u64 q.y, .int .u64 q.n]] w fun e w' => e = .returned (.agg #[.int .u8 c, .int .u64 a, .int .u64 b]) ∧ OutQ w st sb db kk cc F L' w' := by
  rw [hop]
  have hFl := hS.lt
  obtain ⟨W, hW⟩ : ∃ W, W = (w.alloc (.cells #[.int .u8 3, .int .u8 q.k0, .int .u8 q.k1, .int .u8 q.k2, .int .u8 q.k3, .int .u8 q.k4, .int .u8 q.k5, .int .u8 q.k6, .int .u8 q.k7, .int .u8 q.kd, .int .u64 q.x, .int .u64 q.y, .int .u64 q.n] 65)).alloc (.cells #[.int .u8 0, .int .u64 0, .int .u64 0] 40) := ⟨_, rfl⟩
  have hB : Below w.heap.size w W := hW ▸ ((Below.refl _ w).alloc (Nat.le_refl _) _).alloc (by simp) _
  have hk0 : W.heap[w.heap.size]? = some (.cells #[.int .u8 3, .int .u8 q.k0, .int .u8 q.k1, .int .u8 q.k2, .int .u8 q.k3, .int .u8 q.k4, .int .u8 q.k5, .int .u8 q.k6, .int .u8 q.k7, .int .u8 q.kd, .int .u64 q.x, .int .u64 q.y, .int .u64 q.n] 65) := hW ▸ upB (heapNew _ _) _
  have hr0 : W.heap[w.heap.size + 1]? = some (.cells #[.int .u8 0, .int .u64 0, .int .u64 0] 40) := hW ▸ heapN (by simp)
  have hSW := hS.below hB (Nat.le_refl _)
  have a1 := cellB hk0
  have lr := ltB hr0
  go_enter Tryz.func74, Tryz.ntmps74
  go_upto_region 1 with fail
  rw [← hW]
  clear hW
  go_upto_region 7 with fail
  go_region_with (go_at_call 112; go_loud (refine (hc.out _ hSW.drew).mono ?_; rintro e w2 ⟨rfl, c', hc1, hc2, hc3, F', ho1, ho2, ho3⟩; have HC := hide (And.intro hc1 (And.intro hc2 hc3)); clear hc1 hc2 hc3; have HO1 := hide ho1; clear ho1; have hr2 := (ho2.block _ lr (fun h => by have := hFl _ h; omega)).trans hr0; have c2 := cellB hr2; have f2 := frozenB hr2))
  all_goals go_wp2
  all_goals (
    refine bodyPost_ret (v := .agg #[.int .u8 c, .int .u64 a, .int .u64 b]) (by simp [results, Tryz.results74, go_sem, c2]) rfl ⟨rfl, ?_⟩
    exact ⟨c', HC.out.1, HC.out.2.1, HC.out.2.2, OutL.fin hB.drew lr hFl HO1.out ho2 ho3 _ _ _⟩)

set_option maxRecDepth 100000 in
set_option maxHeartbeats 4000000 in
theorem do_remove (sb : Nat) (st : Int) (db kk : Nat) (cc : Led) (L' : Ld) (F : Nat → Prop) (q : Rq) (c a b : Int) (w : World) (hop : q.op = 4) (hS : LedAt w st sb db (kk + 2) cc F)
    (hc : Hid (∀ w1, LedAt w1 st sb db (kk + 2) cc F → Calls Tryz.prog 113 #[.pointer (some ⟨sb, 2, none⟩), .agg #[.int .u8 q.k0, .int .u8 q.k1, .int .u8 q.k2, .int .u8 q.k3, .int .u8 q.k4, .int .u8 q.k5, .int .u8 q.k6, .int .u8 q.k7]] w1 fun e w' => e = .returned (.agg #[.int .u8 c, .int .u64 a, .int .u64 b]) ∧ OutQ w1 st sb db kk cc F L' w')) :
    Calls Tryz.prog 74 #[.pointer (some ⟨sb, 0, none⟩), .agg #[.int .u8 q.op, .int .u8 q.k0, .int .u8 q.k1, .int .u8 q.k2, .int .u8 q.k3, .int .u8 q.k4, .int .u8 q.k5, .int .u8 q.k6, .int .u8 q.k7, .int .u8 q.kd, .int .u64 q.x, .int .u64 q.y, .int .u64 q.n]] w fun e w' => e = .returned (.agg #[.int .u8 c, .int .u64 a, .int .u64 b]) ∧ OutQ w st sb db kk cc F L' w' := by
  rw [hop]
  have hFl := hS.lt
  obtain ⟨W, hW⟩ : ∃ W, W = (w.alloc (.cells #[.int .u8 4, .int .u8 q.k0, .int .u8 q.k1, .int .u8 q.k2, .int .u8 q.k3, .int .u8 q.k4, .int .u8 q.k5, .int .u8 q.k6, .int .u8 q.k7, .int .u8 q.kd, .int .u64 q.x, .int .u64 q.y, .int .u64 q.n] 65)).alloc (.cells #[.int .u8 0, .int .u64 0, .int .u64 0] 40) := ⟨_, rfl⟩
  have hB : Below w.heap.size w W := hW ▸ ((Below.refl _ w).alloc (Nat.le_refl _) _).alloc (by simp) _
  have hk0 : W.heap[w.heap.size]? = some (.cells #[.int .u8 4, .int .u8 q.k0, .int .u8 q.k1, .int .u8 q.k2, .int .u8 q.k3, .int .u8 q.k4, .int .u8 q.k5, .int .u8 q.k6, .int .u8 q.k7, .int .u8 q.kd, .int .u64 q.x, .int .u64 q.y, .int .u64 q.n] 65) := hW ▸ upB (heapNew _ _) _
  have hr0 : W.heap[w.heap.size + 1]? = some (.cells #[.int .u8 0, .int .u64 0, .int .u64 0] 40) := hW ▸ heapN (by simp)
  have hSW := hS.below hB (Nat.le_refl _)
  have a1 := cellB hk0
  have lr := ltB hr0
  go_enter Tryz.func74, Tryz.ntmps74
  go_upto_region 1 with fail
  rw [← hW]
  clear hW
  go_upto_region 9 with fail
  go_region_with (go_at_call 113; go_loud (refine (hc.out _ hSW.drew).mono ?_; rintro e w2 ⟨rfl, c', hc1, hc2, hc3, F', ho1, ho2, ho3⟩; have HC := hide (And.intro hc1 (And.intro hc2 hc3)); clear hc1 hc2 hc3; have HO1 := hide ho1; clear ho1; have hr2 := (ho2.block _ lr (fun h => by have := hFl _ h; omega)).trans hr0; have c2 := cellB hr2; have f2 := frozenB hr2))
  all_goals go_wp2
  all_goals (
    refine bodyPost_ret (v := .agg #[.int .u8 c, .int .u64 a, .int .u64 b]) (by simp [results, Tryz.results74, go_sem, c2]) rfl ⟨rfl, ?_⟩
    exact ⟨c', HC.out.1, HC.out.2.1, HC.out.2.2, OutL.fin hB.drew lr hFl HO1.out ho2 ho3 _ _ _⟩)

end Go.Proofs.YtnlgndpcddngoaaGreatDoor

namespace Go.Proofs.YtnlgndpcddngoaaGreatDoor
open Go.RowKit Go.Maps
variable [dK] [iK]

set_option maxRecDepth 100000 in
set_option maxHeartbeats 4000000 in
theorem do_define (sb : Nat) (st : Int) (db kk : Nat) (cc : Led) (L' : Ld) (F : Nat → Prop) (q : Rq) (c a b : Int) (w : World) (hop : q.op = 1) (hS : LedAt w st sb db (kk + 2) cc F)
    (hc : Hid (∀ w1, LedAt w1 st sb db (kk + 2) cc F → Calls Tryz.prog 109 #[.pointer (some ⟨sb, 2, none⟩), .agg #[.int .u8 q.k0, .int .u8 q.k1, .int .u8 q.k2, .int .u8 q.k3, .int .u8 q.k4, .int .u8 q.k5, .int .u8 q.k6, .int .u8 q.k7], .agg #[.int .u8 q.kd, .int .u64 q.x, .int .u64 q.y]] w1 fun e w' => e = .returned (.agg #[.int .u8 c, .int .u64 a, .int .u64 b]) ∧ OutQ w1 st sb db kk cc F L' w')) :
    Calls Tryz.prog 74 #[.pointer (some ⟨sb, 0, none⟩), .agg #[.int .u8 q.op, .int .u8 q.k0, .int .u8 q.k1, .int .u8 q.k2, .int .u8 q.k3, .int .u8 q.k4, .int .u8 q.k5, .int .u8 q.k6, .int .u8 q.k7, .int .u8 q.kd, .int .u64 q.x, .int .u64 q.y, .int .u64 q.n]] w fun e w' => e = .returned (.agg #[.int .u8 c, .int .u64 a, .int .u64 b]) ∧ OutQ w st sb db kk cc F L' w' := by
  rw [hop]
  have hFl := hS.lt
  obtain ⟨W, hW⟩ : ∃ W, W = (w.alloc (.cells #[.int .u8 1, .int .u8 q.k0, .int .u8 q.k1, .int .u8 q.k2, .int .u8 q.k3, .int .u8 q.k4, .int .u8 q.k5, .int .u8 q.k6, .int .u8 q.k7, .int .u8 q.kd, .int .u64 q.x, .int .u64 q.y, .int .u64 q.n] 65)).alloc (.cells #[.int .u8 0, .int .u64 0, .int .u64 0] 40) := ⟨_, rfl⟩
  have hB : Below w.heap.size w W := hW ▸ ((Below.refl _ w).alloc (Nat.le_refl _) _).alloc (by simp) _
  have hk0 : W.heap[w.heap.size]? = some (.cells #[.int .u8 1, .int .u8 q.k0, .int .u8 q.k1, .int .u8 q.k2, .int .u8 q.k3, .int .u8 q.k4, .int .u8 q.k5, .int .u8 q.k6, .int .u8 q.k7, .int .u8 q.kd, .int .u64 q.x, .int .u64 q.y, .int .u64 q.n] 65) := hW ▸ upB (heapNew _ _) _
  have hr0 : W.heap[w.heap.size + 1]? = some (.cells #[.int .u8 0, .int .u64 0, .int .u64 0] 40) := hW ▸ heapN (by simp)
  have hSW := hS.below hB (Nat.le_refl _)
  have a1 := cellB hk0
  have lr := ltB hr0
  go_enter Tryz.func74, Tryz.ntmps74
  go_upto_region 1 with fail
  rw [← hW]
  clear hW
  go_upto_region 3 with fail
  go_region_with (go_at_call 109; go_loud (refine (hc.out _ hSW.drew).mono ?_; rintro e w2 ⟨rfl, c', hc1, hc2, hc3, F', ho1, ho2, ho3⟩; have HC := hide (And.intro hc1 (And.intro hc2 hc3)); clear hc1 hc2 hc3; have HO1 := hide ho1; clear ho1; have hr2 := (ho2.block _ lr (fun h => by have := hFl _ h; omega)).trans hr0; have c2 := cellB hr2; have f2 := frozenB hr2))
  all_goals go_wp2
  all_goals (
    refine bodyPost_ret (v := .agg #[.int .u8 c, .int .u64 a, .int .u64 b]) (by simp [results, Tryz.results74, go_sem, c2]) rfl ⟨rfl, ?_⟩
    exact ⟨c', HC.out.1, HC.out.2.1, HC.out.2.2, OutL.fin hB.drew lr hFl HO1.out ho2 ho3 _ _ _⟩)

end Go.Proofs.YtnlgndpcddngoaaGreatDoor

namespace Go.Proofs.YtnlgndpcddngoaaGreatDoor
open Go.RowKit Go.Maps
variable [dK] [iK]

set_option maxRecDepth 100000 in
set_option maxHeartbeats 4000000 in
theorem do_clock (sb : Nat) (st : Int) (db kk : Nat) (cc : Led) (F : Nat → Prop) (q : Rq) (w : World) (hop : q.op = 6) (hcc : cc.ok) (hS : LedAt w st sb db (kk + 2) cc F) :
    Calls Tryz.prog 74 #[.pointer (some ⟨sb, 0, none⟩), .agg #[.int .u8 q.op, .int .u8 q.k0, .int .u8 q.k1, .int .u8 q.k2, .int .u8 q.k3, .int .u8 q.k4, .int .u8 q.k5, .int .u8 q.k6, .int .u8 q.k7, .int .u8 q.kd, .int .u64 q.x, .int .u64 q.y, .int .u64 q.n]] w fun e w' => e = .returned (.agg #[.int .u8 1, .int .u64 cc.time, .int .u64 0]) ∧ OutQ w st sb db kk cc F cc.ld w' := by
  rw [hop]
  have hFl := hS.lt
  obtain ⟨W, hW⟩ : ∃ W, W = (w.alloc (.cells #[.int .u8 6, .int .u8 q.k0, .int .u8 q.k1, .int .u8 q.k2, .int .u8 q.k3, .int .u8 q.k4, .int .u8 q.k5, .int .u8 q.k6, .int .u8 q.k7, .int .u8 q.kd, .int .u64 q.x, .int .u64 q.y, .int .u64 q.n] 65)).alloc (.cells #[.int .u8 0, .int .u64 0, .int .u64 0] 40) := ⟨_, rfl⟩
  have hB : Below w.heap.size w W := hW ▸ ((Below.refl _ w).alloc (Nat.le_refl _) _).alloc (by simp) _
  have hk0 : W.heap[w.heap.size]? = some (.cells #[.int .u8 6, .int .u8 q.k0, .int .u8 q.k1, .int .u8 q.k2, .int .u8 q.k3, .int .u8 q.k4, .int .u8 q.k5, .int .u8 q.k6, .int .u8 q.k7, .int .u8 q.kd, .int .u64 q.x, .int .u64 q.y, .int .u64 q.n] 65) := hW ▸ upB (heapNew _ _) _
  have hr0 : W.heap[w.heap.size + 1]? = some (.cells #[.int .u8 0, .int .u64 0, .int .u64 0] 40) := hW ▸ heapN (by simp)
  have hSW := hS.below hB (Nat.le_refl _)
  have a1 := cellB hk0
  have lr := ltB hr0
  obtain ⟨mp, g, FD, m1, _⟩ := hSW.mem
  go_enter Tryz.func74, Tryz.ntmps74
  go_upto_region 1 with fail
  rw [← hW]
  clear hW
  go_wp2_with fail
  refine (bclock sb _ _ _ _ _ _ cc.time _ m1).mono ?_
  rintro e w2 ⟨rfl, hb2⟩
  have hr2 := (hb2.block _ lr).trans hr0
  have c2 := cellB hr2
  have f2 := frozenB hr2
  clear a1
  go_wp2
  refine bodyPost_ret (v := .agg #[.int .u8 1, .int .u64 cc.time, .int .u64 0]) (by simp [results, Tryz.results74, go_sem, c2]) rfl ⟨rfl, ?_⟩
  exact ⟨cc, hcc, rfl, rfl, OutL.fin hB lr hFl ((hSW.below hb2 (Nat.le_refl _)).less (by omega)) (Keep.of_below hb2) (fun b h => Or.inl h) _ _ _⟩

end Go.Proofs.YtnlgndpcddngoaaGreatDoor
