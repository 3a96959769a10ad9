import Derived.Test.YtlamgpeiolfffaaGreatDoorZz00
import Derived.Laws.CopyOwn
import Derived.BigQuiet
import Derived.Deep.QuietTactic
import Derived.Deep.RegionLaw
namespace Go.Proofs.YtlamgpeiolfffaaGreatDoor
open Go.RowKit

set_option maxRecDepth 100000 in
set_option maxHeartbeats 400000 in
theorem small_more (F g o m : Nat) (b : Int) (w : World) (hF : w.cell? ⟨F, 0, none⟩ = some (.slice (some ⟨g, o, none⟩) m m)) (hz : w.frozen? ⟨F, 0, none⟩ = false) (hm : 1 < m) (hm1 : m ≤ 255) (hc : w.cell? ⟨g, o, none⟩ = some (.int .u8 b)) :
    Calls Tryz.prog 99 #[.pointer (some ⟨F, 0, none⟩)] w fun e w' => e = .returned (.int .u8 b) ∧ w' = w.setCell ⟨F, 0, none⟩ (.slice (some ⟨g, o + 1, none⟩) (m - 1) (m - 1)) := by
  have hmp : 0 < m := by omega
  have hmI : (0 : Int) < m := by omega
  have hme : ¬ m = 1 := by omega
  go_enter Tryz.func99, Tryz.ntmps99
  go_wp2
  go_ret
  exact ⟨rfl, rfl⟩

set_option maxRecDepth 100000 in
set_option maxHeartbeats 400000 in
theorem small_last (F g o : Nat) (b : Int) (w : World) (hF : w.cell? ⟨F, 0, none⟩ = some (.slice (some ⟨g, o, none⟩) 1 1)) (hz : w.frozen? ⟨F, 0, none⟩ = false) (hc : w.cell? ⟨g, o, none⟩ = some (.int .u8 b)) :
    Calls Tryz.prog 99 #[.pointer (some ⟨F, 0, none⟩)] w fun e w' => e = .returned (.int .u8 b) ∧ ∃ v, w' = w.setCell ⟨F, 0, none⟩ v := by
  go_enter Tryz.func99, Tryz.ntmps99
  go_wp2
  go_ret
  exact ⟨rfl, _, rfl⟩

/-- The number whose first j bytes are c 0, c 1, .. -/
def rdTo (c : Nat → Int) : Nat → Int
  | 0 => 0
  | j + 1 => rdTo c j * 256 + c j

theorem u64_small (n : Int) (h0 : 0 ≤ n) (h1 : n < 2 ^ 64) : IntKind.u64.wrap n = n := by rw [IntKind.wrap_u64]; omega
theorem or_byte (x c : Int) (hx : 0 ≤ x) (hx1 : x < 2 ^ 56) (hc : 0 ≤ c) (hc1 : c ≤ 255) : bits BinOp.or IntKind.u64 (IntKind.u64.wrap (x * 256)) c = x * 256 + c := by
  rw [u64_small _ (by omega) (by omega)]
  exact bits_join .u64 64 (by decide) (fun n => u64_small n) 8 (x * 256) c (by omega) (by omega) (by omega) hc (by omega) (by omega)
theorem rdTo_bound (c : Nat → Int) (hr : ∀ j, 0 ≤ c j ∧ c j ≤ 255) : ∀ j, 0 ≤ rdTo c j ∧ rdTo c j < 256 ^ j
  | 0 => by simp [rdTo]
  | j + 1 => by
    have h := rdTo_bound c hr j
    have hj := hr j
    simp only [rdTo]
    rw [Int.pow_succ]
    omega
theorem rdTo_lt (c : Nat → Int) (hr : ∀ j, 0 ≤ c j ∧ c j ≤ 255) (j : Nat) (hj : j < 8) : 0 ≤ rdTo c j ∧ rdTo c j < 2 ^ 56 := by
  have h := rdTo_bound c hr j
  refine ⟨h.1, ?_⟩
  match j, hj with
  | 0, _ => omega
  | 1, _ => omega
  | 2, _ => omega
  | 3, _ => omega
  | 4, _ => omega
  | 5, _ => omega
  | 6, _ => omega
  | 7, _ => omega
theorem int_u64 {a b : Int} (h : a = b) : Value.int .u64 a = .int .u64 b := by rw [h]

set_option maxRecDepth 100000 in
set_option maxHeartbeats 400000 in
theorem number_any (F g o m : Nat) (c : Nat → Int) (w : World) (hF : w.cell? ⟨F, 0, none⟩ = some (.slice (some ⟨g, o, none⟩) m m)) (hz : w.frozen? ⟨F, 0, none⟩ = false) (hm : 8 ≤ m) (hm1 : m ≤ 255) (hc : ∀ j, j < 8 → w.cell? ⟨g, o + j, none⟩ = some (.int .u8 (c j))) (hr : ∀ j, 0 ≤ c j ∧ c j ≤ 255) :
    Calls Tryz.prog 101 #[.pointer (some ⟨F, 0, none⟩)] w fun e w' => e = .returned (.int .u64 (rdTo c 8)) ∧ ∃ ao, w' = w.setCell ⟨F, 0, none⟩ (.slice ao (m - 8) (m - 8)) ∧ (8 < m → ao = some ⟨g, o + 8, none⟩) := by
  go_enter Tryz.func101, Tryz.ntmps101
  go_wp2
  go_loop [3, 12] (fun v i => ∃ j : Nat, j ≤ 8 ∧ i = .int .i64 j ∧ v = .int .u64 (rdTo c j)) (fun _ i => 8 - (intOf i).toNat)
  case atStart => exact ⟨0, by omega, rfl, rfl⟩
  case round =>
    obtain ⟨j, hj, rfl, rfl⟩ := hrel
    by_cases hlt : j < 8
    · have hcj := hc j hlt
      have hrj := hr j
      have HB := hide (rdTo_lt c hr j hlt)
      have HR := hide hrj
      go_wp2
      go_round
      case rel => exact ⟨j + 1, by omega, by go_num, int_u64 (or_byte _ _ HB.out.1 HB.out.2 HR.out.1 HR.out.2)⟩
      case measure => simp [intOf]; omega
    · obtain rfl : j = 8 := by omega
      by_cases hme : m = 8
      · subst hme
        go_wp2

        go_ret
        exact ⟨rfl, _, rfl⟩
      · go_wp2

        go_ret
        exact ⟨rfl, _, rfl, fun _ => rfl⟩
end Go.Proofs.YtlamgpeiolfffaaGreatDoor

namespace Go.Proofs.YtlamgpeiolfffaaGreatDoor
open Go.RowKit

set_option maxRecDepth 100000 in
set_option maxHeartbeats 400000 in
theorem refread (g o m cap : Nat) (c : Nat → Int) (w : World) (hm : 8 ≤ m) (hm1 : m ≤ 1048576) (hc : ∀ j, j < 8 → w.cell? ⟨g, o + j, none⟩ = some (.int .u8 (c j))) (hr : ∀ j, 0 ≤ c j ∧ c j ≤ 255) :
    Calls Tryz.prog 81 #[.slice (some ⟨g, o, none⟩) m cap] w fun e w' => e = .returned (.int .u64 (rdTo c 8)) ∧ w' = w := by
  go_enter Tryz.func81, Tryz.ntmps81
  go_wp2
  go_loop [3, 4] (fun v i => ∃ (j : Nat) (x : Int), j ≤ 8 ∧ i = .int .i64 j ∧ v = .int .u64 x ∧ 0 ≤ x ∧ (j < 8 → x < 72057594037927936) ∧ Hid (x = rdTo c j)) (fun _ i => 8 - (intOf i).toNat)
  case atStart => exact ⟨0, 0, by omega, rfl, rfl, by omega, by omega, by show (0 : Int) = 0; rfl⟩
  case round =>
    obtain ⟨j, x, hj, rfl, rfl, hx0, hx1, HX⟩ := hrel
    by_cases hlt : j < 8
    · have hcj := hc j hlt
      have hrj := hr j
      have hxb := hx1 hlt
      have hjm : j < m := by omega

      have HC := hide hr
      clear hx1 hr
      go_wp2
      go_round
      case rel => exact ⟨j + 1, rdTo c (j + 1), by omega, by go_num, int_u64 (by rw [HX.out]; rfl), (rdTo_bound c HC.out (j + 1)).1, fun h => by have := (rdTo_lt c HC.out (j + 1) h).2; omega, rfl⟩
      case measure => simp [intOf]; omega
    · obtain rfl : j = 8 := by omega
      go_wp2
      go_ret
      exact ⟨by rw [← HX.out]; rfl, rfl⟩
end Go.Proofs.YtlamgpeiolfffaaGreatDoor

namespace Go.Proofs.YtlamgpeiolfffaaGreatDoor
open Go.RowKit

theorem cell_grown {w w' : World} {g : Nat} (h : w.grownBy w' (some g)) {b : Nat} (hb : b < w.heap.size) (hne : b ≠ g) (j : Nat) : w'.cell? ⟨b, j, none⟩ = w.cell? ⟨b, j, none⟩ :=
  World.cell?_of_block (w := w) (h.block b hb (by intro e; injection e with e; exact hne e))
theorem cell_box (w : World) (cs : Array Value) (t : TypeId) (j : Nat) : (w.alloc (.cells cs t)).cell? ⟨w.heap.size, j, none⟩ = cs[j]? := by
  rw [World.cell?_alloc_at _ _ _ _ rfl]
theorem src_of {w : World} {b o : Nat} {cs : Array Value} (hc : ∀ j, w.cell? ⟨b, j, none⟩ = cs[j]?) (news : List Value) (hn : ∀ j u, news[j]? = some u → cs[o + j]? = some u) :
    ∀ j u, news[j]? = some u → w.cell? ((⟨b, o, none⟩ : Addr).add j) = some u := by
  intro j u hj
  rw [Addr.add_lit, hc]; exact hn j u hj

theorem own_down {w : World} {b b' : Nat} {v : Value} {n : Nat} {xs : List Value} (hb : b' ≤ b) (h : w.ownsRow b 5 1 v n xs) : w.ownsRow b' 5 1 v n xs := by
  refine ⟨h.1, ?_⟩
  rcases h.2 with h | ⟨g, cap, cur, h1, h2, h3⟩
  · exact .inl h
  · exact .inr ⟨g, cap, cur, h1, Nat.le_trans hb h2, h3⟩
theorem key_src (v0 a b c d e f g h v9 v10 v11 v12 : Value) : ∀ (j : Nat) u, ([a, b, c, d, e, f, g, h] : List Value)[j]? = some u → (#[v0, a, b, c, d, e, f, g, h, v9, v10, v11, v12] : Array Value)[1 + j]? = some u := by
  intro j u hj
  match j, hj with
  | 0, hj => simpa using hj
  | 1, hj => simpa using hj
  | 2, hj => simpa using hj
  | 3, hj => simpa using hj
  | 4, hj => simpa using hj
  | 5, hj => simpa using hj
  | 6, hj => simpa using hj
  | 7, hj => simpa using hj

set_option maxRecDepth 100000 in
set_option maxHeartbeats 1000000 in
theorem wreq1 (k0 k1 k2 k3 k4 k5 k6 k7 kd x y n : Int) (w : World) (hx0 : 0 ≤ x) (hx1 : x ≤ 18446744073709551615) (hy0 : 0 ≤ y) (hy1 : y ≤ 18446744073709551615) :
    Calls Tryz.prog 40 #[.agg #[.int .u8 1, .int .u8 k0, .int .u8 k1, .int .u8 k2, .int .u8 k3, .int .u8 k4, .int .u8 k5, .int .u8 k6, .int .u8 k7, .int .u8 kd, .int .u64 x, .int .u64 y, .int .u64 n]] w
      fun e w' => e = .returned (.slice (some ⟨w.heap.size + 1, 0, none⟩) 27 27) ∧ w'.ownsRow (w.heap.size + 1) 5 1 (.slice (some ⟨w.heap.size + 1, 0, none⟩) 27 27) 27 (([26, 1, k0, k1, k2, k3, k4, k5, k6, k7, kd] ++ be8 x ++ be8 y).map (Value.int .u8)) ∧ Below w.heap.size w w' := by
  obtain ⟨i0, hi, hz0, hz1, hz2⟩ := info_parts Tryz.info5
  go_enter Tryz.func40, Tryz.ntmps40
  go_wp2_with (first | (go_at_call 62; refine (len_any _ _).mono ?_; rintro e w' ⟨rfl, rfl⟩))
  refine (start_at 26 _ _ (w.heap.size + 1) (by simp) (by omega) (by omega)).mono ?_
  rintro e w1 ⟨rfl, hown1, hb1⟩
  have hs1 : w.heap.size + 1 < w1.heap.size := (hown1.lt (w.heap.size + 1) rfl).2
  have hc1 : ∀ j, w1.cell? ⟨w.heap.size, j, none⟩ = (#[.int .u8 1, .int .u8 k0, .int .u8 k1, .int .u8 k2, .int .u8 k3, .int .u8 k4, .int .u8 k5, .int .u8 k6, .int .u8 k7, .int .u8 kd, .int .u64 x, .int .u64 y, .int .u64 n] : Array Value)[j]? := fun j => (hb1.cell (p := ⟨w.heap.size, j, none⟩) (by simp)).trans (cell_box w _ _ j)
  have hB1 : Below w.heap.size w w1 := ((Below.refl _ w).alloc (Nat.le_refl _) _).trans (hb1.mono (by omega))
  clear hb1
  go_wp2_with (first | (at_builtin; refine wpList_append_fits _ rfl (.tmp 18) (.tmp 20) 69 rfl (w.heap.size + 1) 5 i0 1 Tryz.underlying69 hi hz1 (w.heap.size + 1) 2 27 _ rfl hown1 ⟨w.heap.size, 1, none⟩ 8 8 [.int .u8 k0, .int .u8 k1, .int .u8 k2, .int .u8 k3, .int .u8 k4, .int .u8 k5, .int .u8 k6, .int .u8 k7] rfl rfl (src_of hc1 _ (key_src _ _ _ _ _ _ _ _ _ _ _ _ _)) (by simp [Value.oneCell']) (by omega) ?_; intro w2 hown2 hgrow2; have hc2 := fun j => (cell_grown hgrow2 (b := w.heap.size) (by omega) (by omega) j).trans (hc1 j)) | (at_builtin; refine wpList_append_fits _ rfl (.tmp 22) (.tmp 26) 69 rfl (w.heap.size + 1) 5 i0 1 Tryz.underlying69 hi hz1 (w.heap.size + 1) 10 27 _ rfl (hown2.alloc _) ⟨w2.heap.size, 0, none⟩ 1 1 [.int .u8 kd] rfl rfl (cell_one_new _ _ _) (by simp [Value.oneCell']) (by omega) ?_; intro w3 hown3 hgrow3; have hs2 := hgrow2.size; have hc3 := fun j => (cell_grown hgrow3 (b := w.heap.size) (by simp; omega) (by omega) j).trans ((World.cell?_alloc_lt w2 _ ⟨w.heap.size, j, none⟩ (show w.heap.size < w2.heap.size by omega)).trans (hc2 j))))
  refine (num_any (w.heap.size + 1) 11 27 (w.heap.size + 1) _ _ _ hown3 (by omega) hx0 hx1).mono ?_
  rintro e w4 ⟨rfl, hown4, hgrow4⟩
  have hs3 := hgrow3.size
  simp only [World.size_alloc] at hs3
  have hs4 := hgrow4.size
  have hc4 := fun j => (cell_grown hgrow4 (b := w.heap.size) (by omega) (by omega) j).trans (hc3 j)
  go_wp2_with fail
  refine (num_any (w.heap.size + 1) 19 27 (w.heap.size + 1) _ _ _ hown4 (by omega) hy0 hy1).mono ?_
  rintro e w5 ⟨rfl, hown5, hgrow5⟩
  go_wp2
  go_ret
  refine ⟨rfl, hown5, ?_⟩
  exact (((((hB1.grown hgrow2 (by omega) (by simp)).alloc (by omega) _).grown hgrow3 (by simp; omega) (by simp)).grown hgrow4 (by omega) (by simp)).grown hgrow5 (by omega) (by simp))

set_option maxRecDepth 100000 in
set_option maxHeartbeats 1000000 in
theorem wreq2 (k0 k1 k2 k3 k4 k5 k6 k7 kd x y n : Int) (w : World) (hn0 : 0 ≤ n) (hn1 : n ≤ 18446744073709551615) :
    Calls Tryz.prog 40 #[.agg #[.int .u8 2, .int .u8 k0, .int .u8 k1, .int .u8 k2, .int .u8 k3, .int .u8 k4, .int .u8 k5, .int .u8 k6, .int .u8 k7, .int .u8 kd, .int .u64 x, .int .u64 y, .int .u64 n]] w
      fun e w' => e = .returned (.slice (some ⟨w.heap.size + 1, 0, none⟩) 18 18) ∧ w'.ownsRow (w.heap.size + 1) 5 1 (.slice (some ⟨w.heap.size + 1, 0, none⟩) 18 18) 18 (([17, 2, k0, k1, k2, k3, k4, k5, k6, k7] ++ be8 n).map (Value.int .u8)) ∧ Below w.heap.size w w' := by
  obtain ⟨i0, hi, hz0, hz1, hz2⟩ := info_parts Tryz.info5
  go_enter Tryz.func40, Tryz.ntmps40
  go_wp2_with (first | (go_at_call 62; refine (len_any _ _).mono ?_; rintro e w' ⟨rfl, rfl⟩))
  refine (start_at 17 _ _ (w.heap.size + 1) (by simp) (by omega) (by omega)).mono ?_
  rintro e w1 ⟨rfl, hown1, hb1⟩
  have hs1 : w.heap.size + 1 < w1.heap.size := (hown1.lt (w.heap.size + 1) rfl).2
  have hc1 : ∀ j, w1.cell? ⟨w.heap.size, j, none⟩ = (#[.int .u8 2, .int .u8 k0, .int .u8 k1, .int .u8 k2, .int .u8 k3, .int .u8 k4, .int .u8 k5, .int .u8 k6, .int .u8 k7, .int .u8 kd, .int .u64 x, .int .u64 y, .int .u64 n] : Array Value)[j]? := fun j => (hb1.cell (p := ⟨w.heap.size, j, none⟩) (by simp)).trans (cell_box w _ _ j)
  have hB1 : Below w.heap.size w w1 := ((Below.refl _ w).alloc (Nat.le_refl _) _).trans (hb1.mono (by omega))
  clear hb1
  go_wp2_with (at_builtin; refine wpList_append_fits _ rfl (.tmp 40) (.tmp 42) 69 rfl (w.heap.size + 1) 5 i0 1 Tryz.underlying69 hi hz1 (w.heap.size + 1) 2 18 _ rfl hown1 ⟨w.heap.size, 1, none⟩ 8 8 [.int .u8 k0, .int .u8 k1, .int .u8 k2, .int .u8 k3, .int .u8 k4, .int .u8 k5, .int .u8 k6, .int .u8 k7] rfl rfl (src_of hc1 _ (key_src _ _ _ _ _ _ _ _ _ _ _ _ _)) (by simp [Value.oneCell']) (by omega) ?_; intro w2 hown2 hgrow2; have hc2 := fun j => (cell_grown hgrow2 (b := w.heap.size) (by omega) (by omega) j).trans (hc1 j))
  have hs2 := hgrow2.size
  refine (num_any (w.heap.size + 1) 10 18 (w.heap.size + 1) _ _ _ hown2 (by omega) hn0 hn1).mono ?_
  rintro e w3 ⟨rfl, hown3, hgrow3⟩
  go_wp2
  go_ret
  refine ⟨rfl, hown3, ?_⟩
  exact (hB1.grown hgrow2 (by omega) (by simp)).grown hgrow3 (by omega) (by simp)

set_option maxRecDepth 100000 in
set_option maxHeartbeats 1000000 in
theorem wreq3 (k0 k1 k2 k3 k4 k5 k6 k7 kd x y n : Int) (w : World) :
    Calls Tryz.prog 40 #[.agg #[.int .u8 3, .int .u8 k0, .int .u8 k1, .int .u8 k2, .int .u8 k3, .int .u8 k4, .int .u8 k5, .int .u8 k6, .int .u8 k7, .int .u8 kd, .int .u64 x, .int .u64 y, .int .u64 n]] w
      fun e w' => e = .returned (.slice (some ⟨w.heap.size + 1, 0, none⟩) 10 10) ∧ w'.ownsRow (w.heap.size + 1) 5 1 (.slice (some ⟨w.heap.size + 1, 0, none⟩) 10 10) 10 (([9, 3, k0, k1, k2, k3, k4, k5, k6, k7]).map (Value.int .u8)) ∧ Below w.heap.size w w' := by
  obtain ⟨i0, hi, hz0, hz1, hz2⟩ := info_parts Tryz.info5
  go_enter Tryz.func40, Tryz.ntmps40
  go_wp2_with (first | (go_at_call 62; refine (len_any _ _).mono ?_; rintro e w' ⟨rfl, rfl⟩))
  refine (start_at 9 _ _ (w.heap.size + 1) (by simp) (by omega) (by omega)).mono ?_
  rintro e w1 ⟨rfl, hown1, hb1⟩
  have hs1 : w.heap.size + 1 < w1.heap.size := (hown1.lt (w.heap.size + 1) rfl).2
  have hc1 : ∀ j, w1.cell? ⟨w.heap.size, j, none⟩ = (#[.int .u8 3, .int .u8 k0, .int .u8 k1, .int .u8 k2, .int .u8 k3, .int .u8 k4, .int .u8 k5, .int .u8 k6, .int .u8 k7, .int .u8 kd, .int .u64 x, .int .u64 y, .int .u64 n] : Array Value)[j]? := fun j => (hb1.cell (p := ⟨w.heap.size, j, none⟩) (by simp)).trans (cell_box w _ _ j)
  have hB1 : Below w.heap.size w w1 := ((Below.refl _ w).alloc (Nat.le_refl _) _).trans (hb1.mono (by omega))
  clear hb1
  go_wp2_with (at_builtin; refine wpList_append_fits _ rfl (.tmp 51) (.tmp 53) 69 rfl (w.heap.size + 1) 5 i0 1 Tryz.underlying69 hi hz1 (w.heap.size + 1) 2 10 _ rfl hown1 ⟨w.heap.size, 1, none⟩ 8 8 [.int .u8 k0, .int .u8 k1, .int .u8 k2, .int .u8 k3, .int .u8 k4, .int .u8 k5, .int .u8 k6, .int .u8 k7] rfl rfl (src_of hc1 _ (key_src _ _ _ _ _ _ _ _ _ _ _ _ _)) (by simp [Value.oneCell']) (by omega) ?_; intro w2 hown2 hgrow2; have hc2 := fun j => (cell_grown hgrow2 (b := w.heap.size) (by omega) (by omega) j).trans (hc1 j))
  go_ret
  exact ⟨rfl, hown2, hB1.grown hgrow2 (by omega) (by simp)⟩

set_option maxRecDepth 100000 in
set_option maxHeartbeats 1000000 in
theorem wreq4 (k0 k1 k2 k3 k4 k5 k6 k7 kd x y n : Int) (w : World) :
    Calls Tryz.prog 40 #[.agg #[.int .u8 4, .int .u8 k0, .int .u8 k1, .int .u8 k2, .int .u8 k3, .int .u8 k4, .int .u8 k5, .int .u8 k6, .int .u8 k7, .int .u8 kd, .int .u64 x, .int .u64 y, .int .u64 n]] w
      fun e w' => e = .returned (.slice (some ⟨w.heap.size + 1, 0, none⟩) 10 10) ∧ w'.ownsRow (w.heap.size + 1) 5 1 (.slice (some ⟨w.heap.size + 1, 0, none⟩) 10 10) 10 (([9, 4, k0, k1, k2, k3, k4, k5, k6, k7]).map (Value.int .u8)) ∧ Below w.heap.size w w' := by
  obtain ⟨i0, hi, hz0, hz1, hz2⟩ := info_parts Tryz.info5
  go_enter Tryz.func40, Tryz.ntmps40
  go_wp2_with (first | (go_at_call 62; refine (len_any _ _).mono ?_; rintro e w' ⟨rfl, rfl⟩))
  refine (start_at 9 _ _ (w.heap.size + 1) (by simp) (by omega) (by omega)).mono ?_
  rintro e w1 ⟨rfl, hown1, hb1⟩
  have hs1 : w.heap.size + 1 < w1.heap.size := (hown1.lt (w.heap.size + 1) rfl).2
  have hc1 : ∀ j, w1.cell? ⟨w.heap.size, j, none⟩ = (#[.int .u8 4, .int .u8 k0, .int .u8 k1, .int .u8 k2, .int .u8 k3, .int .u8 k4, .int .u8 k5, .int .u8 k6, .int .u8 k7, .int .u8 kd, .int .u64 x, .int .u64 y, .int .u64 n] : Array Value)[j]? := fun j => (hb1.cell (p := ⟨w.heap.size, j, none⟩) (by simp)).trans (cell_box w _ _ j)
  have hB1 : Below w.heap.size w w1 := ((Below.refl _ w).alloc (Nat.le_refl _) _).trans (hb1.mono (by omega))
  clear hb1
  go_wp2_with (at_builtin; refine wpList_append_fits _ rfl (.tmp 51) (.tmp 53) 69 rfl (w.heap.size + 1) 5 i0 1 Tryz.underlying69 hi hz1 (w.heap.size + 1) 2 10 _ rfl hown1 ⟨w.heap.size, 1, none⟩ 8 8 [.int .u8 k0, .int .u8 k1, .int .u8 k2, .int .u8 k3, .int .u8 k4, .int .u8 k5, .int .u8 k6, .int .u8 k7] rfl rfl (src_of hc1 _ (key_src _ _ _ _ _ _ _ _ _ _ _ _ _)) (by simp [Value.oneCell']) (by omega) ?_; intro w2 hown2 hgrow2; have hc2 := fun j => (cell_grown hgrow2 (b := w.heap.size) (by omega) (by omega) j).trans (hc1 j))
  go_ret
  exact ⟨rfl, hown2, hB1.grown hgrow2 (by omega) (by simp)⟩

set_option maxRecDepth 100000 in
set_option maxHeartbeats 1000000 in
theorem wreq5 (k0 k1 k2 k3 k4 k5 k6 k7 kd x y n : Int) (w : World) :
    Calls Tryz.prog 40 #[.agg #[.int .u8 5, .int .u8 k0, .int .u8 k1, .int .u8 k2, .int .u8 k3, .int .u8 k4, .int .u8 k5, .int .u8 k6, .int .u8 k7, .int .u8 kd, .int .u64 x, .int .u64 y, .int .u64 n]] w
      fun e w' => e = .returned (.slice (some ⟨w.heap.size + 1, 0, none⟩) 2 2) ∧ w'.ownsRow (w.heap.size + 1) 5 1 (.slice (some ⟨w.heap.size + 1, 0, none⟩) 2 2) 2 (([1, 5]).map (Value.int .u8)) ∧ Below w.heap.size w w' := by
  obtain ⟨i0, hi, hz0, hz1, hz2⟩ := info_parts Tryz.info5
  go_enter Tryz.func40, Tryz.ntmps40
  go_wp2_with (first | (go_at_call 62; refine (len_any _ _).mono ?_; rintro e w' ⟨rfl, rfl⟩))
  refine (start_at 1 _ _ (w.heap.size + 1) (by simp) (by omega) (by omega)).mono ?_
  rintro e w1 ⟨rfl, hown1, hb1⟩
  have hs1 : w.heap.size + 1 < w1.heap.size := (hown1.lt (w.heap.size + 1) rfl).2
  have hc1 : ∀ j, w1.cell? ⟨w.heap.size, j, none⟩ = (#[.int .u8 5, .int .u8 k0, .int .u8 k1, .int .u8 k2, .int .u8 k3, .int .u8 k4, .int .u8 k5, .int .u8 k6, .int .u8 k7, .int .u8 kd, .int .u64 x, .int .u64 y, .int .u64 n] : Array Value)[j]? := fun j => (hb1.cell (p := ⟨w.heap.size, j, none⟩) (by simp)).trans (cell_box w _ _ j)
  have hB1 : Below w.heap.size w w1 := ((Below.refl _ w).alloc (Nat.le_refl _) _).trans (hb1.mono (by omega))
  clear hb1
  go_wp2
  go_ret
  exact ⟨rfl, hown1, hB1⟩

set_option maxRecDepth 100000 in
set_option maxHeartbeats 1000000 in
theorem wreq6 (k0 k1 k2 k3 k4 k5 k6 k7 kd x y n : Int) (w : World) :
    Calls Tryz.prog 40 #[.agg #[.int .u8 6, .int .u8 k0, .int .u8 k1, .int .u8 k2, .int .u8 k3, .int .u8 k4, .int .u8 k5, .int .u8 k6, .int .u8 k7, .int .u8 kd, .int .u64 x, .int .u64 y, .int .u64 n]] w
      fun e w' => e = .returned (.slice (some ⟨w.heap.size + 1, 0, none⟩) 2 2) ∧ w'.ownsRow (w.heap.size + 1) 5 1 (.slice (some ⟨w.heap.size + 1, 0, none⟩) 2 2) 2 (([1, 6]).map (Value.int .u8)) ∧ Below w.heap.size w w' := by
  obtain ⟨i0, hi, hz0, hz1, hz2⟩ := info_parts Tryz.info5
  go_enter Tryz.func40, Tryz.ntmps40
  go_wp2_with (first | (go_at_call 62; refine (len_any _ _).mono ?_; rintro e w' ⟨rfl, rfl⟩))
  refine (start_at 1 _ _ (w.heap.size + 1) (by simp) (by omega) (by omega)).mono ?_
  rintro e w1 ⟨rfl, hown1, hb1⟩
  have hs1 : w.heap.size + 1 < w1.heap.size := (hown1.lt (w.heap.size + 1) rfl).2
  have hc1 : ∀ j, w1.cell? ⟨w.heap.size, j, none⟩ = (#[.int .u8 6, .int .u8 k0, .int .u8 k1, .int .u8 k2, .int .u8 k3, .int .u8 k4, .int .u8 k5, .int .u8 k6, .int .u8 k7, .int .u8 kd, .int .u64 x, .int .u64 y, .int .u64 n] : Array Value)[j]? := fun j => (hb1.cell (p := ⟨w.heap.size, j, none⟩) (by simp)).trans (cell_box w _ _ j)
  have hB1 : Below w.heap.size w w1 := ((Below.refl _ w).alloc (Nat.le_refl _) _).trans (hb1.mono (by omega))
  clear hb1
  go_wp2
  go_ret
  exact ⟨rfl, hown1, hB1⟩

set_option maxRecDepth 100000 in
set_option maxHeartbeats 1000000 in
theorem wreq0 (op k0 k1 k2 k3 k4 k5 k6 k7 kd x y n : Int) (w : World) (h : reqLen op = 0) :
    Calls Tryz.prog 40 #[.agg #[.int .u8 op, .int .u8 k0, .int .u8 k1, .int .u8 k2, .int .u8 k3, .int .u8 k4, .int .u8 k5, .int .u8 k6, .int .u8 k7, .int .u8 kd, .int .u64 x, .int .u64 y, .int .u64 n]] w
      fun e w' => e = .returned (.slice none 0 0) ∧ Below w.heap.size w w' := by
  go_enter Tryz.func40, Tryz.ntmps40
  go_wp2_with (first | (go_at_call 62; refine (len_any _ _).mono ?_; rintro e w' ⟨rfl, rfl⟩))
  go_ret
  exact ⟨rfl, (Below.refl _ w).alloc (Nat.le_refl _) _⟩

/-- The bytes of a request, by the document (P3). -/
def encReq (op k0 k1 k2 k3 k4 k5 k6 k7 kd x y n : Int) : List Int :=
  if op = 1 then [26, 1, k0, k1, k2, k3, k4, k5, k6, k7, kd] ++ be8 x ++ be8 y
  else if op = 2 then [17, 2, k0, k1, k2, k3, k4, k5, k6, k7] ++ be8 n
  else if op = 3 ∨ op = 4 then [9, op, k0, k1, k2, k3, k4, k5, k6, k7]
  else if op = 5 ∨ op = 6 then [1, op]
  else []
theorem encReq_length (op k0 k1 k2 k3 k4 k5 k6 k7 kd x y n : Int) : ((encReq op k0 k1 k2 k3 k4 k5 k6 k7 kd x y n).length : Int) = if reqLen op = 0 then 0 else reqLen op + 1 := by
  unfold encReq reqLen
  repeat' split
  all_goals first | rfl | omega

theorem wreq_any (op k0 k1 k2 k3 k4 k5 k6 k7 kd x y n : Int) (w : World) (hx0 : 0 ≤ x) (hx1 : x ≤ 18446744073709551615) (hy0 : 0 ≤ y) (hy1 : y ≤ 18446744073709551615) (hn0 : 0 ≤ n) (hn1 : n ≤ 18446744073709551615) :
    Calls Tryz.prog 40 #[.agg #[.int .u8 op, .int .u8 k0, .int .u8 k1, .int .u8 k2, .int .u8 k3, .int .u8 k4, .int .u8 k5, .int .u8 k6, .int .u8 k7, .int .u8 kd, .int .u64 x, .int .u64 y, .int .u64 n]] w
      fun e w' => Below w.heap.size w w' ∧ ((reqLen op = 0 ∧ e = .returned (.slice none 0 0)) ∨
        (reqLen op ≠ 0 ∧ ∃ g L, w.heap.size ≤ g ∧ L = (encReq op k0 k1 k2 k3 k4 k5 k6 k7 kd x y n).length ∧ e = .returned (.slice (some ⟨g, 0, none⟩) L L) ∧ w'.ownsRow w.heap.size 5 1 (.slice (some ⟨g, 0, none⟩) L L) L ((encReq op k0 k1 k2 k3 k4 k5 k6 k7 kd x y n).map (Value.int .u8)))) := by
  by_cases h1 : op = 1
  · subst h1
    refine (wreq1 k0 k1 k2 k3 k4 k5 k6 k7 kd x y n w hx0 hx1 hy0 hy1).mono ?_
    rintro e w' ⟨rfl, ho, hb⟩
    exact ⟨hb, .inr ⟨by decide, w.heap.size + 1, 27, by omega, rfl, rfl, own_down (by omega) ho⟩⟩
  by_cases h2 : op = 2
  · subst h2
    refine (wreq2 k0 k1 k2 k3 k4 k5 k6 k7 kd x y n w hn0 hn1).mono ?_
    rintro e w' ⟨rfl, ho, hb⟩
    exact ⟨hb, .inr ⟨by decide, w.heap.size + 1, 18, by omega, rfl, rfl, own_down (by omega) ho⟩⟩
  by_cases h3 : op = 3
  · subst h3
    refine (wreq3 k0 k1 k2 k3 k4 k5 k6 k7 kd x y n w).mono ?_
    rintro e w' ⟨rfl, ho, hb⟩
    exact ⟨hb, .inr ⟨by decide, w.heap.size + 1, 10, by omega, rfl, rfl, own_down (by omega) ho⟩⟩
  by_cases h4 : op = 4
  · subst h4
    refine (wreq4 k0 k1 k2 k3 k4 k5 k6 k7 kd x y n w).mono ?_
    rintro e w' ⟨rfl, ho, hb⟩
    exact ⟨hb, .inr ⟨by decide, w.heap.size + 1, 10, by omega, rfl, rfl, own_down (by omega) ho⟩⟩
  by_cases h5 : op = 5
  · subst h5
    refine (wreq5 k0 k1 k2 k3 k4 k5 k6 k7 kd x y n w).mono ?_
    rintro e w' ⟨rfl, ho, hb⟩
    exact ⟨hb, .inr ⟨by decide, w.heap.size + 1, 2, by omega, rfl, rfl, own_down (by omega) ho⟩⟩
  by_cases h6 : op = 6
  · subst h6
    refine (wreq6 k0 k1 k2 k3 k4 k5 k6 k7 kd x y n w).mono ?_
    rintro e w' ⟨rfl, ho, hb⟩
    exact ⟨hb, .inr ⟨by decide, w.heap.size + 1, 2, by omega, rfl, rfl, own_down (by omega) ho⟩⟩
  have h0 : reqLen op = 0 := by simp [reqLen, h1, h2, h3, h4, h5, h6]
  refine (wreq0 op k0 k1 k2 k3 k4 k5 k6 k7 kd x y n w h0).mono ?_
  rintro e w' ⟨rfl, hb⟩
  exact ⟨hb, .inl ⟨h0, rfl⟩⟩

set_option maxRecDepth 100000 in
set_option maxHeartbeats 1000000 in
theorem request_any (op k0 k1 k2 k3 k4 k5 k6 k7 kd x y n : Int) (w : World) (hx0 : 0 ≤ x) (hx1 : x ≤ 18446744073709551615) (hy0 : 0 ≤ y) (hy1 : y ≤ 18446744073709551615) (hn0 : 0 ≤ n) (hn1 : n ≤ 18446744073709551615) :
    Calls Tryz.prog 24 #[.agg #[.int .u8 op, .int .u8 k0, .int .u8 k1, .int .u8 k2, .int .u8 k3, .int .u8 k4, .int .u8 k5, .int .u8 k6, .int .u8 k7, .int .u8 kd, .int .u64 x, .int .u64 y, .int .u64 n]] w
      fun e w' => Below w.heap.size w w' ∧ ((reqLen op = 0 ∧ e = .returned (.slice none 0 0)) ∨
        (reqLen op ≠ 0 ∧ ∃ g L, w.heap.size ≤ g ∧ L = (encReq op k0 k1 k2 k3 k4 k5 k6 k7 kd x y n).length ∧ e = .returned (.slice (some ⟨g, 0, none⟩) L L) ∧ w'.ownsRow w.heap.size 5 1 (.slice (some ⟨g, 0, none⟩) L L) L ((encReq op k0 k1 k2 k3 k4 k5 k6 k7 kd x y n).map (Value.int .u8)))) := by
  go_enter Tryz.func24, Tryz.ntmps24
  go_wp2_with fail
  refine (wreq_any op k0 k1 k2 k3 k4 k5 k6 k7 kd x y n _ hx0 hx1 hy0 hy1 hn0 hn1).mono ?_
  rintro e w' ⟨hb, ⟨h, rfl⟩ | ⟨h, g, L, hg, hL, rfl, ho⟩⟩
  · go_wp2
    go_ret
    exact ⟨((Below.refl _ w).alloc (Nat.le_refl _) _).trans (hb.mono (by simp)), .inl ⟨h, rfl⟩⟩
  · have HL := hide hL
    clear hL
    go_wp2
    go_ret
    exact ⟨((Below.refl _ w).alloc (Nat.le_refl _) _).trans (hb.mono (by simp)), .inr ⟨h, g, L, by simp at hg; omega, unhide HL, rfl, own_down (by simp) ho⟩⟩
end Go.Proofs.YtlamgpeiolfffaaGreatDoor
