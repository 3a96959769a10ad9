import Derived.Test.YtnlgndpcddngoaaGreatDoorZc32
import Derived.Test.YtnlgndpcddngoaaGreatDoorZc36
import Derived.Test.YtnlgndpcddngoaaGreatDoorZc24
set_option linter.unusedSectionVars false
namespace Go.Proofs.YtnlgndpcddngoaaGreatDoor
open Go.RowKit Go.Maps
variable [dK] [iK]

/-- How a ledger stands, as the document has it. -/
def Led.ld (c : Led) : Ld := ⟨c.time, c.adm, stands c.es⟩
theorem Qt.ok.fit {q : Qt} (h : q.ok) : q.fit := ⟨by rcases h.kd with ⟨h, _⟩ | ⟨h, _⟩ <;> omega, h.x, h.y, h.lv, h.wn⟩
theorem mem_stands {es : Es} {p : Ky × Qt} (h : p ∈ stands es) : ∃ x ∈ es, p = (x.1, x.2.1) := by
  unfold stands at h
  obtain ⟨x, hx, e⟩ := List.mem_map.1 h
  exact ⟨x, hx, e.symm⟩
theorem Led.ok.ld {c : Led} (h : c.ok) : c.ld.ok := by
  refine ⟨h.time, h.adm, fun p hp => ?_, fun p hp => ?_, ?_, ?_⟩
  · obtain ⟨x, hx, rfl⟩ := mem_stands hp
    exact h.key x hx
  · obtain ⟨x, hx, rfl⟩ := mem_stands hp
    exact h.qt x hx
  · show ((stands c.es).map Prod.fst).Nodup
    rw [stands_fst]; exact h.nd
  · show (stands c.es).length ≤ 12
    rw [len_stands]; exact h.len
theorem nextT_ok (t : Int) : 0 ≤ nextT t ∧ nextT t ≤ 18446744073709551615 := by unfold nextT; omega
theorem Kept.ok {c c' : Led} {es : Es} (h : Kept c c' es) (hc : c.ok) (nd : (es.map Prod.fst).Nodup) (key : ∀ p ∈ es, p.1.ok) (qt : ∀ p ∈ es, p.2.1.ok) (fit : ∀ p ∈ es, p.2.2.fit) (len : es.length ≤ 12) (res : ∀ p ∈ es, Res c.blk p.2.1 p.2.2) (wnd : ∀ p ∈ es, p.2.2.kd = 2 → p.2.2.wn ≤ c.time / p.2.2.y) : c'.ok := by
  obtain ⟨ks, a, d, hp, rfl⟩ := h
  exact ⟨hc.time, hc.adm, hc.blk, nextT_ok _, nd, key, qt, fit, len, hc.dur.keep hc.turn hc.time hc.nd hc.key hc.len res wnd hp a⟩
theorem Kept.ld {c c' : Led} {es : Es} (h : Kept c c' es) : c'.ld = ⟨c.time, c.adm, stands es⟩ := by
  obtain ⟨ks, a, d, _, rfl⟩ := h
  rfl
theorem Kept.blk {c c' : Led} {es : Es} (h : Kept c c' es) : c'.blk = c.blk := by
  obtain ⟨ks, a, d, _, rfl⟩ := h
  rfl
/-- What a request leaves of a ledger. -/
def OutQ (w : World) (st : Int) (sb db k : Nat) (c : Led) (F : Nat → Prop) (L : Ld) (w' : World) : Prop :=
  ∃ c', c'.ok ∧ c'.ld = L ∧ c'.blk = c.blk ∧ OutL w st sb db k c' F w'
theorem OutQ.same {w w' : World} {st : Int} {sb db k : Nat} {c : Led} {F : Nat → Prop} (hc : c.ok) (h : LedAt w st sb db (k + 2) c F) (hb : Below w.heap.size w w') : OutQ w st sb db k c F c.ld w' :=
  ⟨c, hc, rfl, rfl, OutL.same (h.less (by omega)) hb⟩
theorem ledKeep (st : Int) (sb db k : Nat) {c : Led} {F : Nat → Prop} (hc : c.ok) {es : Es} (rc ra rb : Int) (nd : (es.map Prod.fst).Nodup) (key : ∀ p ∈ es, p.1.ok) (fit : ∀ p ∈ es, p.2.2.fit) (len : es.length ≤ 12) :
    Hid (∀ w1 mp', LedAt w1 st sb db (k + 2) c F → MapE w1 mp' es → ¬ F mp' → Calls Tryz.prog 134 #[.pointer (some ⟨sb, 2, none⟩), .map (some mp'), .agg #[.int .u8 rc, .int .u64 ra, .int .u64 rb]] w1 fun e w' => e = .returned (.agg #[.int .u8 rc, .int .u64 ra, .int .u64 rb]) ∧ ∃ c' F', Kept c c' es ∧ LedAt w' st sb db k c' F' ∧ Keep F w1 w' ∧ ∀ b, F' b → F b ∨ w1.heap.size ≤ b ∨ b = mp') :=
  hide (fun w1 mp' h hE hF => keep134 st sb db k mp' c F es rc ra rb w1 h hc hE hF nd key fit len)
theorem fndG_of {k : Ky} {es : Es} (h : fnd k (stands es) = none) : fndG k es = none := by
  rw [fnd_stands] at h
  cases e : fndG k es with
  | none => rfl
  | some p => rw [e] at h; cases h
theorem fndG_of' {k : Ky} {es : Es} {z : Qt} (h : fnd k (stands es) = some z) : ∃ z2, fndG k es = some (z, z2) := by
  rw [fnd_stands] at h
  cases e : fndG k es with
  | none => rw [e] at h; cases h
  | some p =>
    rw [e] at h
    obtain ⟨p1, p2⟩ := p
    injection h with h
    exact ⟨p2, by rw [← h]⟩

theorem book_query (st : Int) (sb db k : Nat) (c : Led) (F : Nat → Prop) (q : Rq) (w : World) (hop : q.op = 3) (hq : q.ok) (hL : LedAt w st sb db (k + 2) c F) (hc : c.ok) :
    Calls Tryz.prog 112 #[.pointer (some ⟨sb, 2, none⟩), .agg #[.int .u8 q.k0, .int .u8 q.k1, .int .u8 q.k2, .int .u8 q.k3, .int .u8 q.k4, .int .u8 q.k5, .int .u8 q.k6, .int .u8 q.k7]] w fun e w' => e = .returned (.agg #[.int .u8 (doM c.ld q).2.c, .int .u64 (doM c.ld q).2.a, .int .u64 (doM c.ld q).2.b]) ∧ OutQ w st sb db k c F (doM c.ld q).1 w' := by
  obtain ⟨mp, g, FD, m1, m2, _⟩ := hL.mem
  cases hf : fnd q.key (stands c.es) with
  | none =>
    have e : doM c.ld q = (c.ld, ⟨4, 0, 0⟩) := by
      unfold doM; rw [if_neg (by omega), if_neg (by omega), if_pos hop]
      show (match fnd q.key (stands c.es) with | none => _ | some z => _) = _
      rw [hf]
    rw [e]
    refine (bquery_none sb mp _ _ _ _ c.time c.blk c.es q.key w m1 m2 hq.key (fndG_of hf)).mono ?_
    rintro e w' ⟨rfl, hb⟩
    exact ⟨rfl, OutQ.same hc hL hb⟩
  | some z =>
    obtain ⟨z2, hg⟩ := fndG_of' hf
    have e : doM c.ld q = (c.ld, ⟨1, (turnM z c.time).lv, (turnM z c.time).wn⟩) := by
      unfold doM; rw [if_neg (by omega), if_neg (by omega), if_pos hop]
      show (match fnd q.key (stands c.es) with | none => _ | some z => _) = _
      rw [hf]; rfl
    rw [e]
    have hz : z.ok := hc.qt _ (fndG_mem hg)
    refine (bquery_some sb mp _ _ _ _ c.time c.blk c.es q.key w m1 m2 hq.key z z2 hg 1 (turnM z c.time).lv (turnM z c.time).wn (hide (fun w1 => qquery_any z c.time w1 hz hc.time.1 hc.time.2))).mono ?_
    rintro e w' ⟨rfl, hb⟩
    exact ⟨rfl, OutQ.same hc hL hb⟩

theorem book_remove (st : Int) (sb db k : Nat) (c : Led) (F : Nat → Prop) (q : Rq) (w : World) (hop : q.op = 4) (hq : q.ok) (hL : LedAt w st sb db (k + 2) c F) (hc : c.ok) :
    Calls Tryz.prog 113 #[.pointer (some ⟨sb, 2, none⟩), .agg #[.int .u8 q.k0, .int .u8 q.k1, .int .u8 q.k2, .int .u8 q.k3, .int .u8 q.k4, .int .u8 q.k5, .int .u8 q.k6, .int .u8 q.k7]] w fun e w' => e = .returned (.agg #[.int .u8 (doM c.ld q).2.c, .int .u64 (doM c.ld q).2.a, .int .u64 (doM c.ld q).2.b]) ∧ OutQ w st sb db k c F (doM c.ld q).1 w' := by
  obtain ⟨mp, g, FD, m1, m2, _⟩ := hL.mem
  cases hf : fnd q.key (stands c.es) with
  | none =>
    have e : doM c.ld q = (c.ld, ⟨4, 0, 0⟩) := by
      unfold doM; rw [if_neg (by omega), if_neg (by omega), if_neg (by omega), if_pos hop]
      show (match fnd q.key (stands c.es) with | none => _ | some z => _) = _
      rw [hf]
    rw [e]
    refine (bremove_none sb mp _ _ _ _ c.time c.blk c.es q.key w m1 m2 hq.key (fndG_of hf)).mono ?_
    rintro e w' ⟨rfl, hb⟩
    exact ⟨rfl, OutQ.same hc hL hb⟩
  | some z =>
    obtain ⟨z2, hg⟩ := fndG_of' hf
    have e : doM c.ld q = (⟨c.time, c.adm, del q.key (stands c.es)⟩, ⟨1, 0, 0⟩) := by
      unfold doM; rw [if_neg (by omega), if_neg (by omega), if_neg (by omega), if_pos hop]
      show (match fnd q.key (stands c.es) with | none => _ | some z => _) = _
      rw [hf]; rfl
    rw [e]
    have nd : ((delG q.key c.es).map Prod.fst).Nodup := hc.nd.sublist (delG_sub.map _)
    have sub : ∀ p ∈ delG q.key c.es, p ∈ c.es := fun p hp => delG_sub.subset hp
    have len : (delG q.key c.es).length ≤ 12 := Nat.le_trans delG_sub.length_le hc.len
    refine (bremove_some sb mp _ _ _ _ c.time c.blk c.es q.key w m1 m2 hq.key z z2 hg st db k c F hc.nd hc.len (hide (fun w1 hb => hL.below hb (Nat.le_refl _))) hL.lt (ledKeep st sb db k hc 1 0 0 nd (fun p hp => hc.key p (sub p hp)) (fun p hp => hc.fit p (sub p hp)) len)).mono ?_
    rintro e w' ⟨rfl, c', hK, hO⟩
    refine ⟨rfl, c', hK.ok hc nd (fun p hp => hc.key p (sub p hp)) (fun p hp => hc.qt p (sub p hp)) (fun p hp => hc.fit p (sub p hp)) len (fun p hp => hc.dur.res p (sub p hp)) (fun p hp => hc.dur.wnd p (sub p hp)), ?_, hK.blk, hO⟩
    rw [hK.ld, del_stands]
end Go.Proofs.YtnlgndpcddngoaaGreatDoor
