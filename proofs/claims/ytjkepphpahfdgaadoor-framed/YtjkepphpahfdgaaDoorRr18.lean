import Derived.Test.YtjkepphpahfdgaaDoorRrep
import Derived.Test.YtjkepphpahfdgaaDoorRefd
namespace Go.Proofs.YtjkepphpahfdgaaDoor
open Go.RowKit

set_option maxRecDepth 100000 in
set_option maxHeartbeats 1000000 in
theorem rr18_nil (ao : Option Addr) (cap : Nat) (w : World)  :
    Calls Tryd.prog 18 #[.slice ao 0 cap] w fun e w' => e = .returned (.tuple #[.agg #[.int .u8 0, .int .u64 0, .int .u64 0], .int .i64 0, .int .i64 1]) ∧ Below w.heap.size w w' := by
  go_enter Tryd.func18, Tryd.ntmps18
  go_wp2
  refine bodyPost_ret (v := .tuple #[.agg #[.int .u8 0, .int .u64 0, .int .u64 0], .int .i64 0, .int .i64 1]) (by simp [results, Tryd.results18, go_sem]) rfl ⟨rfl, ?_⟩
  exact (Below.refl _ w).alloc (Nat.le_refl _) _

set_option maxRecDepth 100000 in
set_option maxHeartbeats 1000000 in
theorem rr18_head (g n cap : Nat) (b0 : Int) (w : World) (hn : 0 < n) (hg : g < w.heap.size) (hc0 : w.cell? ⟨g, 0, none⟩ = some (.int .u8 b0)) (h0 : ¬ b0 = 17) :
    Calls Tryd.prog 18 #[.slice (some ⟨g, 0, none⟩) n cap] w fun e w' => e = .returned (.tuple #[.agg #[.int .u8 0, .int .u64 0, .int .u64 0], .int .i64 0, .int .i64 2]) ∧ Below w.heap.size w w' := by
  have hn0 : (0 : Int) < n := by omega
  have hnd : decide ((0 : Int) < n) = true := by simpa using hn0
  have hc0' : ∀ o1, (w.alloc o1).cell? ⟨g, 0, none⟩ = some (.int .u8 b0) := fun o1 => by rw [World.cell?_alloc_past _ _ _ hg]; exact hc0
  have hz : (b0 != 17) = true := by simpa using h0
  go_enter Tryd.func18, Tryd.ntmps18
  go_wp2
  refine bodyPost_ret (v := .tuple #[.agg #[.int .u8 0, .int .u64 0, .int .u64 0], .int .i64 0, .int .i64 2]) (by simp [results, Tryd.results18, go_sem]) rfl ⟨rfl, ?_⟩
  exact (Below.refl _ w).alloc (Nat.le_refl _) _

set_option maxRecDepth 100000 in
set_option maxHeartbeats 1000000 in
theorem rr18_one (g n cap : Nat) (b0 : Int) (w : World) (hn : 0 < n) (hg : g < w.heap.size) (hc0 : w.cell? ⟨g, 0, none⟩ = some (.int .u8 b0)) (h0 : b0 = 17) (hn1 : n = 1) :
    Calls Tryd.prog 18 #[.slice (some ⟨g, 0, none⟩) n cap] w fun e w' => e = .returned (.tuple #[.agg #[.int .u8 0, .int .u64 0, .int .u64 0], .int .i64 0, .int .i64 1]) ∧ Below w.heap.size w w' := by
  have hn0 : (0 : Int) < n := by omega
  have hnd : decide ((0 : Int) < n) = true := by simpa using hn0
  have hc0' : ∀ o1, (w.alloc o1).cell? ⟨g, 0, none⟩ = some (.int .u8 b0) := fun o1 => by rw [World.cell?_alloc_past _ _ _ hg]; exact hc0
  subst h0
  have _ := hn
  have hn2 : decide ((1 : Int) < n) = false := by simp; omega
  have hlt : decide ((n : Int) < 18) = true := by simp; omega
  go_enter Tryd.func18, Tryd.ntmps18
  go_wp2
  refine bodyPost_ret (v := .tuple #[.agg #[.int .u8 0, .int .u64 0, .int .u64 0], .int .i64 0, .int .i64 1]) (by simp [results, Tryd.results18, go_sem]) rfl ⟨rfl, ?_⟩
  exact (Below.refl _ w).alloc (Nat.le_refl _) _

set_option maxRecDepth 100000 in
set_option maxHeartbeats 1000000 in
theorem rr18_low (g n cap : Nat) (b0 : Int) (w : World) (hn : 0 < n) (hg : g < w.heap.size) (hc0 : w.cell? ⟨g, 0, none⟩ = some (.int .u8 b0)) (h0 : b0 = 17) (hn1 : 1 < n) (b1 : Int) (hc1 : w.cell? ⟨g, 1, none⟩ = some (.int .u8 b1)) (hlo : b1 < 1) :
    Calls Tryd.prog 18 #[.slice (some ⟨g, 0, none⟩) n cap] w fun e w' => e = .returned (.tuple #[.agg #[.int .u8 0, .int .u64 0, .int .u64 0], .int .i64 0, .int .i64 2]) ∧ Below w.heap.size w w' := by
  have hn0 : (0 : Int) < n := by omega
  have hnd : decide ((0 : Int) < n) = true := by simpa using hn0
  have hc0' : ∀ o1, (w.alloc o1).cell? ⟨g, 0, none⟩ = some (.int .u8 b0) := fun o1 => by rw [World.cell?_alloc_past _ _ _ hg]; exact hc0
  subst h0
  have hn2 : decide ((1 : Int) < n) = true := by simp; omega
  have hnI : (1 : Int) < n := by omega
  have hc1' : ∀ o1, (w.alloc o1).cell? ⟨g, 1, none⟩ = some (.int .u8 b1) := fun o1 => by rw [World.cell?_alloc_past _ _ _ hg]; exact hc1
  have hd1 : decide (b1 < 1) = true := by simpa using hlo
  go_enter Tryd.func18, Tryd.ntmps18
  go_wp2
  refine bodyPost_ret (v := .tuple #[.agg #[.int .u8 0, .int .u64 0, .int .u64 0], .int .i64 0, .int .i64 2]) (by simp [results, Tryd.results18, go_sem]) rfl ⟨rfl, ?_⟩
  exact (Below.refl _ w).alloc (Nat.le_refl _) _

set_option maxRecDepth 100000 in
set_option maxHeartbeats 1000000 in
theorem rr18_high (g n cap : Nat) (b0 : Int) (w : World) (hn : 0 < n) (hg : g < w.heap.size) (hc0 : w.cell? ⟨g, 0, none⟩ = some (.int .u8 b0)) (h0 : b0 = 17) (hn1 : 1 < n) (b1 : Int) (hc1 : w.cell? ⟨g, 1, none⟩ = some (.int .u8 b1)) (hlo : ¬ b1 < 1) (hhi : 9 < b1) :
    Calls Tryd.prog 18 #[.slice (some ⟨g, 0, none⟩) n cap] w fun e w' => e = .returned (.tuple #[.agg #[.int .u8 0, .int .u64 0, .int .u64 0], .int .i64 0, .int .i64 2]) ∧ Below w.heap.size w w' := by
  have hn0 : (0 : Int) < n := by omega
  have hnd : decide ((0 : Int) < n) = true := by simpa using hn0
  have hc0' : ∀ o1, (w.alloc o1).cell? ⟨g, 0, none⟩ = some (.int .u8 b0) := fun o1 => by rw [World.cell?_alloc_past _ _ _ hg]; exact hc0
  subst h0
  have hn2 : decide ((1 : Int) < n) = true := by simp; omega
  have hnI : (1 : Int) < n := by omega
  have hc1' : ∀ o1, (w.alloc o1).cell? ⟨g, 1, none⟩ = some (.int .u8 b1) := fun o1 => by rw [World.cell?_alloc_past _ _ _ hg]; exact hc1
  have hd1 : decide (b1 < 1) = false := by simpa using hlo
  have hd2 : decide (9 < b1) = true := by simpa using hhi
  go_enter Tryd.func18, Tryd.ntmps18
  go_wp2
  refine bodyPost_ret (v := .tuple #[.agg #[.int .u8 0, .int .u64 0, .int .u64 0], .int .i64 0, .int .i64 2]) (by simp [results, Tryd.results18, go_sem]) rfl ⟨rfl, ?_⟩
  exact (Below.refl _ w).alloc (Nat.le_refl _) _

set_option maxRecDepth 100000 in
set_option maxHeartbeats 1000000 in
theorem rr18_short (g n cap : Nat) (b0 : Int) (w : World) (hn : 0 < n) (hg : g < w.heap.size) (hc0 : w.cell? ⟨g, 0, none⟩ = some (.int .u8 b0)) (h0 : b0 = 17) (hn1 : 1 < n) (b1 : Int) (hc1 : w.cell? ⟨g, 1, none⟩ = some (.int .u8 b1)) (hlo : ¬ b1 < 1) (hhi : ¬ 9 < b1) (hs : n < 18) :
    Calls Tryd.prog 18 #[.slice (some ⟨g, 0, none⟩) n cap] w fun e w' => e = .returned (.tuple #[.agg #[.int .u8 0, .int .u64 0, .int .u64 0], .int .i64 0, .int .i64 1]) ∧ Below w.heap.size w w' := by
  have hn0 : (0 : Int) < n := by omega
  have hnd : decide ((0 : Int) < n) = true := by simpa using hn0
  have hc0' : ∀ o1, (w.alloc o1).cell? ⟨g, 0, none⟩ = some (.int .u8 b0) := fun o1 => by rw [World.cell?_alloc_past _ _ _ hg]; exact hc0
  subst h0
  have hn2 : decide ((1 : Int) < n) = true := by simp; omega
  have hnI : (1 : Int) < n := by omega
  have hc1' : ∀ o1, (w.alloc o1).cell? ⟨g, 1, none⟩ = some (.int .u8 b1) := fun o1 => by rw [World.cell?_alloc_past _ _ _ hg]; exact hc1
  have hd1 : decide (b1 < 1) = false := by simpa using hlo
  have hd2 : decide (9 < b1) = false := by simpa using hhi
  have hlt : decide ((n : Int) < 18) = true := by simp; omega
  go_enter Tryd.func18, Tryd.ntmps18
  go_wp2
  refine bodyPost_ret (v := .tuple #[.agg #[.int .u8 0, .int .u64 0, .int .u64 0], .int .i64 0, .int .i64 1]) (by simp [results, Tryd.results18, go_sem]) rfl ⟨rfl, ?_⟩
  exact (Below.refl _ w).alloc (Nat.le_refl _) _

set_option maxRecDepth 100000 in
set_option maxHeartbeats 1000000 in
theorem rr18_ok (g n cap : Nat) (b : Nat → Int) (w : World) (hn : 18 ≤ n) (hnc : n ≤ cap) (hn1 : n ≤ 1048576) (hg : g < w.heap.size) (hb : ∀ j, j < n → w.cell? ⟨g, j, none⟩ = some (.int .u8 (b j))) (hr : ∀ j, 0 ≤ b j ∧ b j ≤ 255) (hb0 : b 0 = 17) (hlo : ¬ b 1 < 1) (hhi : ¬ 9 < b 1) :
    Calls Tryd.prog 18 #[.slice (some ⟨g, 0, none⟩) n cap] w fun e w' => e = .returned (.tuple #[.agg #[.int .u8 (b 1), .int .u64 (rdTo (fun j => b (2 + j)) 8), .int .u64 (rdTo (fun j => b (10 + j)) 8)], .int .i64 18, .int .i64 0]) ∧ Below w.heap.size w w' := by
  have hn0 : (0 : Int) < n := by omega
  have hnd : decide ((0 : Int) < n) = true := by simpa using hn0
  have hn2 : decide ((1 : Int) < n) = true := by simp; omega
  have hnI : (1 : Int) < n := by omega
  have hnI2 : (2 : Int) ≤ n := by omega
  have hnI10 : (10 : Int) ≤ n := by omega
  have hncI : (n : Int) ≤ cap := by omega
  have hcap : ¬ cap = 2 := by omega
  have hcap2 : ¬ cap = 10 := by omega
  have hlt : decide ((n : Int) < 18) = false := by simp; omega
  have hd1 : decide (b 1 < 1) = false := by simpa using hlo
  have hd2 : decide (9 < b 1) = false := by simpa using hhi
  have hcj : ∀ o1 j, j < n → (w.alloc o1).cell? ⟨g, j, none⟩ = some (.int .u8 (b j)) := fun o1 j hj => by rw [World.cell?_alloc_past _ _ _ hg]; exact hb j hj
  have HC := hide hcj
  have HR := hide hr
  have hc0' : ∀ o1, (w.alloc o1).cell? ⟨g, 0, none⟩ = some (.int .u8 17) := fun o1 => by rw [hcj o1 0 (by omega), hb0]
  have hc1' : ∀ o1, (w.alloc o1).cell? ⟨g, 1, none⟩ = some (.int .u8 (b 1)) := fun o1 => hcj o1 1 (by omega)
  clear hb hr hcj hb0
  go_enter Tryd.func18, Tryd.ntmps18
  go_wp2_with fail
  refine (refread g 2 (n - 2) (cap - 2) (fun j => b (2 + j)) _ (by omega) (by omega) (fun j hj => HC.out _ (2 + j) (by omega)) (fun j => HR.out (2 + j))).mono ?_
  rintro e w' ⟨rfl, rfl⟩
  go_wp2_with fail
  refine (refread g 10 (n - 10) (cap - 10) (fun j => b (10 + j)) _ (by omega) (by omega) (fun j hj => HC.out _ (10 + j) (by omega)) (fun j => HR.out (10 + j))).mono ?_
  rintro e w' ⟨rfl, rfl⟩
  go_wp2
  refine bodyPost_ret (v := .tuple #[.agg #[.int .u8 (b 1), .int .u64 (rdTo (fun j => b (2 + j)) 8), .int .u64 (rdTo (fun j => b (10 + j)) 8)], .int .i64 18, .int .i64 0]) (by simp [results, Tryd.results18, go_sem]) rfl ⟨rfl, ?_⟩
  exact (Below.refl _ w).alloc (Nat.le_refl _) _
end Go.Proofs.YtjkepphpahfdgaaDoor
