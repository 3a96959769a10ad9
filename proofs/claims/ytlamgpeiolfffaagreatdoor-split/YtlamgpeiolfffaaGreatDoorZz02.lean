import Derived.Test.YtlamgpeiolfffaaGreatDoorZz01
import Derived.Test.YtlamgpeiolfffaaGreatDoorZz00
import Derived.BigQuiet
import Derived.Laws.EntriesVeiled
import Derived.Deep.QuietTactic
set_option linter.unusedSectionVars false
namespace Go.Proofs.YtlamgpeiolfffaaGreatDoor
open Go.RowKit

/-- A request, as numbers. -/
structure Rq where
  op : Int
  k0 : Int
  k1 : Int
  k2 : Int
  k3 : Int
  k4 : Int
  k5 : Int
  k6 : Int
  k7 : Int
  kd : Int
  x : Int
  y : Int
  n : Int
def Rq.zero : Rq := ⟨0, 0, 0, 0, 0, 0, 0, 0, 0, 0, 0, 0, 0⟩

/-- What is wrong with bytes (P4): 0: nothing; 1: they end too early; 2: they are no frame. -/
def rdErr (bs : List Int) : Int :=
  match bs with
  | [] => 1
  | b0 :: t => if b0 < 1 ∨ 26 < b0 then 2 else
    match t with
    | [] => 1
    | b1 :: _ => if b0 = reqLen b1 then (if (bs.length : Int) ≤ b0 then 1 else 0) else 2
def rdN (bs : List Int) : Int := if rdErr bs = 0 then bs.getD 0 0 + 1 else 0
def num8 (bs : List Int) (o : Nat) : Int := rdTo (fun j => bs.getD (o + j) 0) 8
def rdQ (bs : List Int) : Rq :=
  if rdErr bs = 0 then
    if bs.getD 1 0 = 1 then ⟨1, bs.getD 2 0, bs.getD 3 0, bs.getD 4 0, bs.getD 5 0, bs.getD 6 0, bs.getD 7 0, bs.getD 8 0, bs.getD 9 0, bs.getD 10 0, num8 bs 11, num8 bs 19, 0⟩
    else if bs.getD 1 0 = 2 then ⟨2, bs.getD 2 0, bs.getD 3 0, bs.getD 4 0, bs.getD 5 0, bs.getD 6 0, bs.getD 7 0, bs.getD 8 0, bs.getD 9 0, 0, 0, 0, num8 bs 10⟩
    else if bs.getD 1 0 = 3 ∨ bs.getD 1 0 = 4 then ⟨bs.getD 1 0, bs.getD 2 0, bs.getD 3 0, bs.getD 4 0, bs.getD 5 0, bs.getD 6 0, bs.getD 7 0, bs.getD 8 0, bs.getD 9 0, 0, 0, 0, 0⟩
    else ⟨bs.getD 1 0, 0, 0, 0, 0, 0, 0, 0, 0, 0, 0, 0, 0⟩
  else Rq.zero

/-- A reply, as numbers. -/
structure Rp where
  c : Int
  a : Int
  b : Int

/-- The bytes of a reply, by the document (P3). -/
def encRep (c a b : Int) : List Int := [17, c] ++ be8 a ++ be8 b

/-- A key. -/
structure Ky where
  k0 : Int
  k1 : Int
  k2 : Int
  k3 : Int
  k4 : Int
  k5 : Int
  k6 : Int
  k7 : Int
abbrev dK := DecidableEq Ky
abbrev iK := Inhabited Ky
variable [dK] [iK]
def Rq.key (q : Rq) : Ky := ⟨q.k0, q.k1, q.k2, q.k3, q.k4, q.k5, q.k6, q.k7⟩
structure Ky.ok (k : Ky) : Prop where
  h0 : 0 ≤ k.k0 ∧ k.k0 ≤ 255
  h1 : 0 ≤ k.k1 ∧ k.k1 ≤ 255
  h2 : 0 ≤ k.k2 ∧ k.k2 ≤ 255
  h3 : 0 ≤ k.k3 ∧ k.k3 ≤ 255
  h4 : 0 ≤ k.k4 ∧ k.k4 ≤ 255
  h5 : 0 ≤ k.k5 ∧ k.k5 ≤ 255
  h6 : 0 ≤ k.k6 ∧ k.k6 ≤ 255
  h7 : 0 ≤ k.k7 ∧ k.k7 ≤ 255

/-- A policy, and how a key stands by it. -/
structure Qt where
  kd : Int
  x : Int
  y : Int
  lv : Int
  wn : Int

/-- There is such a policy. -/
abbrev soundM (kd x y : Int) : Prop := (kd = 1 ∧ 1 ≤ x) ∨ (kd = 2 ∧ 1 ≤ y)
structure Qt.ok (q : Qt) : Prop where
  kd : soundM q.kd q.x q.y
  x : 0 ≤ q.x ∧ q.x ≤ 18446744073709551615
  y : 0 ≤ q.y ∧ q.y ≤ 18446744073709551615
  lv : 0 ≤ q.lv ∧ q.lv ≤ 18446744073709551615
  wn : 0 ≤ q.wn ∧ q.wn ≤ 18446744073709551615

/-- A quota at a time. -/
def turnM (q : Qt) (now : Int) : Qt := if q.kd = 1 then q else if now / q.y = q.wn then q else ⟨q.kd, q.x, q.y, 0, now / q.y⟩
def startM (q : Qt) (now : Int) : Int := if q.lv < now then now else q.lv
/-- P9. -/
def admS (q : Qt) (now n : Int) : Qt × Rp :=
  if n = 0 then (q, ⟨2, q.lv, q.wn⟩)
  else if 18446744073709551615 < startM q now + n * q.x then (q, ⟨3, 18446744073709551615, 0⟩)
  else if q.y < (n - 1) * q.x then (q, ⟨3, 18446744073709551615, 0⟩)
  else if orNever (now + q.y) < startM q now + (n - 1) * q.x then (q, ⟨3, startM q now + (n - 1) * q.x - q.y, 0⟩)
  else (⟨q.kd, q.x, q.y, startM q now + n * q.x, q.wn⟩, ⟨2, startM q now + n * q.x, q.wn⟩)
/-- P10. -/
def admW (q : Qt) (n : Int) : Qt × Rp :=
  if q.lv + n ≤ q.x then (⟨q.kd, q.x, q.y, q.lv + n, q.wn⟩, ⟨2, q.lv + n, q.wn⟩)
  else if q.x < n then (q, ⟨3, 18446744073709551615, 0⟩)
  else (q, ⟨3, orNever (q.wn * q.y + q.y), 0⟩)
def admM (q : Qt) (now n : Int) : Qt × Rp := if q.kd = 1 then admS q now n else admW (turnM q now) n

/-- The keys of a ledger, in the order in which they were defined. -/
def fnd (k : Ky) : List (Ky × Qt) → Option Qt
  | [] => none
  | (k', q) :: r => if k' = k then some q else fnd k r
def upd (k : Ky) (q : Qt) : List (Ky × Qt) → List (Ky × Qt)
  | [] => []
  | (k', q') :: r => if k' = k then (k', q) :: r else (k', q') :: upd k q r
def del (k : Ky) : List (Ky × Qt) → List (Ky × Qt)
  | [] => []
  | (k', q') :: r => if k' = k then r else (k', q') :: del k r

structure Ld where
  time : Int
  adm : Int
  ks : List (Ky × Qt)

structure Ld.ok (L : Ld) : Prop where
  time : 0 ≤ L.time ∧ L.time ≤ 18446744073709551615
  adm : 0 ≤ L.adm ∧ L.adm ≤ 18446744073709551615
  key : ∀ p ∈ L.ks, p.1.ok
  qt : ∀ p ∈ L.ks, p.2.ok
  nd : (L.ks.map Prod.fst).Nodup
  len : L.ks.length ≤ 12

/-- A request is done (P8 to P11, P16). -/
def doM (L : Ld) (q : Rq) : Ld × Rp :=
  if q.op = 1 then
    if ¬ soundM q.kd q.x q.y then (L, ⟨8, 0, 0⟩)
    else if (fnd q.key L.ks).isSome then (L, ⟨9, 0, 0⟩)
    else if 12 ≤ L.ks.length then (L, ⟨5, 0, 0⟩)
    else (⟨L.time, L.adm, L.ks ++ [(q.key, ⟨q.kd, q.x, q.y, 0, 0⟩)]⟩, ⟨1, 0, 0⟩)
  else if q.op = 2 then
    match fnd q.key L.ks with
    | none => (L, ⟨4, 0, 0⟩)
    | some z => (⟨L.time, if (admM z L.time q.n).2.c = 2 then (L.adm + q.n) % 18446744073709551616 else L.adm, upd q.key (admM z L.time q.n).1 L.ks⟩, (admM z L.time q.n).2)
  else if q.op = 3 then
    match fnd q.key L.ks with
    | none => (L, ⟨4, 0, 0⟩)
    | some z => (L, ⟨1, (turnM z L.time).lv, (turnM z L.time).wn⟩)
  else if q.op = 4 then
    match fnd q.key L.ks with
    | none => (L, ⟨4, 0, 0⟩)
    | some _ => (⟨L.time, L.adm, del q.key L.ks⟩, ⟨1, 0, 0⟩)
  else if q.op = 6 then (L, ⟨1, L.time, 0⟩)
  else (L, ⟨1, 0, 0⟩)

/-- The whole frames of bytes are done, one by one: the ledger, the replies, what is left, what is wrong with it. -/
def runM : Nat → Ld → List Int → Ld × List Rp × List Int × Int
  | 0, L, bs => (L, [], bs, rdErr bs)
  | n + 1, L, bs =>
    if rdErr bs = 0 then
      ((runM n (doM L (rdQ bs)).1 (bs.drop (rdN bs).toNat)).1, (doM L (rdQ bs)).2 :: (runM n (doM L (rdQ bs)).1 (bs.drop (rdN bs).toNat)).2.1, (runM n (doM L (rdQ bs)).1 (bs.drop (rdN bs).toNat)).2.2)
    else (L, [], bs, rdErr bs)

/-- A connection: bytes that wait; none more are read. -/
structure Cn where
  waits : List Int
  bad : Bool
def passM (L : Ld) (now : Int) : Ld := ⟨if L.time < now then now else L.time, L.adm, L.ks⟩
/-- Bytes come by a connection (P6, P7). -/
def feedM (L : Ld) (c : Cn) (now : Int) (bs : List Int) : Ld × Cn × List Rp :=
  if c.bad then (passM L now, c, [])
  else
    if (runM (c.waits ++ bs).length (passM L now) (c.waits ++ bs)).2.2.2 = 2 then
      ((runM (c.waits ++ bs).length (passM L now) (c.waits ++ bs)).1, ⟨[], true⟩, (runM (c.waits ++ bs).length (passM L now) (c.waits ++ bs)).2.1 ++ [⟨6, 0, 0⟩])
    else ((runM (c.waits ++ bs).length (passM L now) (c.waits ++ bs)).1, ⟨(runM (c.waits ++ bs).length (passM L now) (c.waits ++ bs)).2.2.1, false⟩, (runM (c.waits ++ bs).length (passM L now) (c.waits ++ bs)).2.1)
def encs (rs : List Rp) : List Int := rs.flatMap fun r => encRep r.c r.a r.b
end Go.Proofs.YtlamgpeiolfffaaGreatDoor

namespace Go.Proofs.YtlamgpeiolfffaaGreatDoor
open Go.RowKit
variable [dK] [iK]

set_option maxRecDepth 100000 in
set_option maxHeartbeats 400000 in
theorem requests_any (w : World) : Calls Tryz.prog 97 #[] w fun e w' => e = .returned (.agg #[.int .u8 1, .int .u8 26, .func (.func 62) #[] #[]]) ∧ Below w.heap.size w w' := by
  go_enter Tryz.func97, Tryz.ntmps97
  go_wp2
  exact bodyPost_ret (v := .agg #[.int .u8 1, .int .u8 26, .func (.func 62) #[] #[]]) (by simp [results, Tryz.results97, go_sem]) rfl ⟨rfl, (Below.refl _ w).alloc (Nat.le_refl _) _⟩

set_option maxRecDepth 100000 in
set_option maxHeartbeats 400000 in
theorem begin0 (ao : Option Addr) (cap : Nat) (w : World) :
    Calls Tryz.prog 121 #[.agg #[.int .u8 1, .int .u8 26, .func (.func 62) #[] #[]], .slice ao 0 cap] w fun e w' => e = .returned (.iface 46 (.int .i64 1)) ∧ Below w.heap.size w w' := by
  go_enter Tryz.func121, Tryz.ntmps121
  go_wp2
  go_ret
  exact ⟨rfl, (Below.refl _ w).alloc (Nat.le_refl _) _⟩

set_option maxRecDepth 100000 in
set_option maxHeartbeats 400000 in
theorem begin1 (g so n cap : Nat) (b0 : Int) (w : World) (hn : 0 < n) (hg : g < w.heap.size) (hc0 : w.cell? ⟨g, so, none⟩ = some (.int .u8 b0)) (hlo : b0 < 1) :
    Calls Tryz.prog 121 #[.agg #[.int .u8 1, .int .u8 26, .func (.func 62) #[] #[]], .slice (some ⟨g, so, none⟩) n cap] w fun e w' => e = .returned (.iface 46 (.int .i64 2)) ∧ Below w.heap.size w w' := by
  have hd : decide (b0 < 1) = true := by simpa using hlo
  have hn0 : ((n : Int) == 0) = false := by simp; omega
  have hc0' : (w.alloc (.cells #[.int .u8 1, .int .u8 26, .func (.func 62) #[] #[]] 188)).cell? ⟨g, so, none⟩ = some (.int .u8 b0) := by rw [World.cell?_alloc_lt _ _ ⟨g, so, none⟩ hg]; exact hc0
  go_enter Tryz.func121, Tryz.ntmps121
  go_wp2
  go_quiet (fail)
  go_wp2
  go_ret
  exact ⟨rfl, below_drewN ((Below.refl _ w).alloc (Nat.le_refl _) _) _⟩

set_option maxRecDepth 100000 in
set_option maxHeartbeats 400000 in
theorem begin2 (g so n cap : Nat) (b0 : Int) (w : World) (hn : 0 < n) (hg : g < w.heap.size) (hc0 : w.cell? ⟨g, so, none⟩ = some (.int .u8 b0)) (hlo : ¬ b0 < 1) (hhi : 26 < b0) :
    Calls Tryz.prog 121 #[.agg #[.int .u8 1, .int .u8 26, .func (.func 62) #[] #[]], .slice (some ⟨g, so, none⟩) n cap] w fun e w' => e = .returned (.iface 46 (.int .i64 2)) ∧ Below w.heap.size w w' := by
  have hd : decide (b0 < 1) = false := by simpa using hlo
  have hd2 : decide (26 < b0) = true := by simpa using hhi
  have hn0 : ((n : Int) == 0) = false := by simp; omega
  have hc0' : (w.alloc (.cells #[.int .u8 1, .int .u8 26, .func (.func 62) #[] #[]] 188)).cell? ⟨g, so, none⟩ = some (.int .u8 b0) := by rw [World.cell?_alloc_lt _ _ ⟨g, so, none⟩ hg]; exact hc0
  go_enter Tryz.func121, Tryz.ntmps121
  go_wp2
  go_quiet (fail)
  go_wp2
  go_ret
  exact ⟨rfl, below_drewN ((Below.refl _ w).alloc (Nat.le_refl _) _) _⟩

set_option maxRecDepth 100000 in
set_option maxHeartbeats 400000 in
theorem begin3 (g so n cap : Nat) (b0 : Int) (w : World) (hn : 0 < n) (hg : g < w.heap.size) (hc0 : w.cell? ⟨g, so, none⟩ = some (.int .u8 b0)) (hlo : ¬ b0 < 1) (hhi : ¬ 26 < b0) (hn1 : ((n : Int) == 1) = true) :
    Calls Tryz.prog 121 #[.agg #[.int .u8 1, .int .u8 26, .func (.func 62) #[] #[]], .slice (some ⟨g, so, none⟩) n cap] w fun e w' => e = .returned (.iface 46 (.int .i64 1)) ∧ Below w.heap.size w w' := by
  have hd : decide (b0 < 1) = false := by simpa using hlo
  have hd2 : decide (26 < b0) = false := by simpa using hhi
  have hn0 : ((n : Int) == 0) = false := by simp; omega
  have hc0' : (w.alloc (.cells #[.int .u8 1, .int .u8 26, .func (.func 62) #[] #[]] 188)).cell? ⟨g, so, none⟩ = some (.int .u8 b0) := by rw [World.cell?_alloc_lt _ _ ⟨g, so, none⟩ hg]; exact hc0
  go_enter Tryz.func121, Tryz.ntmps121
  go_wp2
  go_quiet (fail)
  go_wp2
  go_ret
  exact ⟨rfl, below_drewN ((Below.refl _ w).alloc (Nat.le_refl _) _) _⟩

set_option maxRecDepth 100000 in
set_option maxHeartbeats 400000 in
theorem begin4 (g so n cap : Nat) (b0 b1 : Int) (w : World) (hn : 1 < n) (hg : g < w.heap.size) (hc0 : w.cell? ⟨g, so, none⟩ = some (.int .u8 b0)) (hc1 : w.cell? ⟨g, so + 1, none⟩ = some (.int .u8 b1)) (hlo : ¬ b0 < 1) (hhi : ¬ 26 < b0) :
    Calls Tryz.prog 121 #[.agg #[.int .u8 1, .int .u8 26, .func (.func 62) #[] #[]], .slice (some ⟨g, so, none⟩) n cap] w fun e w' => e = .returned (if b0 = reqLen b1 then .nilIface else .iface 46 (.int .i64 2)) ∧ Below w.heap.size w w' := by
  have hd : decide (b0 < 1) = false := by simpa using hlo
  have hd2 : decide (26 < b0) = false := by simpa using hhi
  have hn0 : ((n : Int) == 0) = false := by simp; omega
  have hn1 : ((n : Int) == 1) = false := by simp; omega
  have hnp : 0 < n := by omega
  have hnI : (1 : Int) < (n : Int) := by omega
  have hwr : IntKind.i64.wrap b0 = b0 := wrap_small b0 (by omega) (by omega)
  have hc0' : (w.alloc (.cells #[.int .u8 1, .int .u8 26, .func (.func 62) #[] #[]] 188)).cell? ⟨g, so, none⟩ = some (.int .u8 b0) := by rw [World.cell?_alloc_lt _ _ ⟨g, so, none⟩ hg]; exact hc0
  have hc1' : (w.alloc (.cells #[.int .u8 1, .int .u8 26, .func (.func 62) #[] #[]] 188)).cell? ⟨g, so + 1, none⟩ = some (.int .u8 b1) := by rw [World.cell?_alloc_lt _ _ ⟨g, so + 1, none⟩ hg]; exact hc1
  by_cases heq : b0 = reqLen b1
  · rw [if_pos heq]
    have hb : (b0 != reqLen b1) = false := by simpa using heq
    have HQ := hide heq
    clear heq
    go_enter Tryz.func121, Tryz.ntmps121
    go_wp2
    go_quiet (fail)
    go_wp2
    go_quiet ((go_at_call 62; refine (len_any _ _).mono ?_; rintro e w2 ⟨rfl, rfl⟩; exact ⟨rfl, _, rfl⟩))
    go_wp2
    go_ret
    exact ⟨rfl, below_drewN (below_drewN ((Below.refl _ w).alloc (Nat.le_refl _) _) _) _⟩
  · rw [if_neg heq]
    have hb : (b0 != reqLen b1) = true := by simpa using heq
    go_enter Tryz.func121, Tryz.ntmps121
    go_wp2
    go_quiet (fail)
    go_wp2
    go_quiet ((go_at_call 62; refine (len_any _ _).mono ?_; rintro e w2 ⟨rfl, rfl⟩; exact ⟨rfl, _, rfl⟩))
    go_wp2
    go_ret
    exact ⟨rfl, below_drewN ((Below.refl _ w).alloc (Nat.le_refl _) _) _⟩
end Go.Proofs.YtlamgpeiolfffaaGreatDoor
