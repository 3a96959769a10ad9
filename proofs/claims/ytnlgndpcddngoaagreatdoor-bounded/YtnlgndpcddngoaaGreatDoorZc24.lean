import Derived.Test.YtnlgndpcddngoaaGreatDoorZc20
import Derived.Test.YtnlgndpcddngoaaGreatDoorZc00
set_option linter.unusedSectionVars false
namespace Go.Proofs.YtnlgndpcddngoaaGreatDoor
open Go.RowKit
variable [dK] [iK]

set_option maxRecDepth 100000 in
set_option maxHeartbeats 1000000 in
theorem qaheadS (kd x y lv wn blk lv1 : Int) (w : World) (hl : 0 ≤ lv ∧ lv ≤ 18446744073709551615) (hb : 0 ≤ blk ∧ blk ≤ 18446744073709551615) (h1 : lv1 = orNever (lv + blk)) :
    Calls Tryz.prog 176 #[.agg #[.int .u8 kd, .int .u64 x, .int .u64 y, .int .u64 lv, .int .u64 wn], .int .u64 blk] w fun e w' => e = .returned (.agg #[.int .u8 kd, .int .u64 x, .int .u64 y, .int .u64 lv1, .int .u64 wn]) ∧ Below w.heap.size w w' := by
  have HS := hide (fun w => sumNever_any lv blk w hl.1 hb.1 hl.2 hb.2)
  rw [← h1] at HS
  clear hl hb h1
  go_enter Tryz.func176, Tryz.ntmps176
  go_wp2_with fail
  refine (HS.out _).mono ?_
  rintro e w1 ⟨rfl, he⟩
  rw [he]
  clear he
  go_wp2
  refine bodyPost_ret (v := .agg #[.int .u8 kd, .int .u64 x, .int .u64 y, .int .u64 lv1, .int .u64 wn]) (by simp [results, Tryz.results176, go_sem]) rfl ⟨rfl, ?_⟩
  repeat (first | exact Below.refl _ _ | (refine Below.setCell ?_ (by simp) _) | (refine Below.alloc ?_ (by simp) _))

set_option maxRecDepth 100000 in
set_option maxHeartbeats 1000000 in
theorem qaheadW (kd x y lv wn blk s lv1 : Int) (w : World) (hl : 0 ≤ lv ∧ lv ≤ 18446744073709551615) (hb : 0 ≤ blk ∧ blk ≤ 18446744073709551615) (hs : s = orNever (lv + blk)) (h1 : lv1 = if s < x then s else x) :
    Calls Tryz.prog 179 #[.agg #[.int .u8 kd, .int .u64 x, .int .u64 y, .int .u64 lv, .int .u64 wn], .int .u64 blk] w fun e w' => e = .returned (.agg #[.int .u8 kd, .int .u64 x, .int .u64 y, .int .u64 lv1, .int .u64 wn]) ∧ Below w.heap.size w w' := by
  have HS := hide (fun w => sumNever_any lv blk w hl.1 hb.1 hl.2 hb.2)
  rw [← hs] at HS
  clear hl hb hs
  by_cases hsx : s < x
  · rw [if_pos hsx] at h1
    subst h1
    have hle : lv1 ≤ x := by omega
    go_enter Tryz.func179, Tryz.ntmps179
    go_upto_region 1 with fail
    go_region_with (go_at_call 190; refine (HS.out _).mono ?_; rintro e w1 ⟨rfl, rfl⟩)
    all_goals go_wp2
    all_goals first | (exfalso; omega) | skip
    all_goals (
      refine bodyPost_ret (v := .agg #[.int .u8 kd, .int .u64 x, .int .u64 y, .int .u64 lv1, .int .u64 wn]) (by simp [results, Tryz.results179, go_sem]) rfl ⟨rfl, ?_⟩
      refine Below.drew ?_
      repeat (first | exact Below.refl _ _ | (refine Below.setCell ?_ (by simp) _) | (refine Below.alloc ?_ (by simp) _)))
  · rw [if_neg hsx] at h1
    subst h1
    by_cases he : s = lv1
    · subst he
      have hle : s ≤ s := Int.le_refl s
      clear hsx
      go_enter Tryz.func179, Tryz.ntmps179
      go_upto_region 1 with fail
      go_region_with (go_at_call 190; refine (HS.out _).mono ?_; rintro e w1 ⟨rfl, rfl⟩)
      all_goals go_wp2
      all_goals first | (exfalso; omega) | skip
      all_goals (
        refine bodyPost_ret (v := .agg #[.int .u8 kd, .int .u64 s, .int .u64 y, .int .u64 s, .int .u64 wn]) (by simp [results, Tryz.results179, go_sem]) rfl ⟨rfl, ?_⟩
        refine Below.drew ?_
        repeat (first | exact Below.refl _ _ | (refine Below.setCell ?_ (by simp) _) | (refine Below.alloc ?_ (by simp) _)))
    · have hlt : lv1 < s := by omega
      have hle : ¬ s ≤ lv1 := by omega
      clear hsx he
      go_enter Tryz.func179, Tryz.ntmps179
      go_upto_region 1 with fail
      go_region_with (go_at_call 190; refine (HS.out _).mono ?_; rintro e w1 ⟨rfl, rfl⟩)
      all_goals go_wp2
      all_goals first | (exfalso; omega) | skip
      all_goals (
        refine bodyPost_ret (v := .agg #[.int .u8 kd, .int .u64 lv1, .int .u64 y, .int .u64 lv1, .int .u64 wn]) (by simp [results, Tryz.results179, go_sem]) rfl ⟨rfl, ?_⟩
        refine Below.drew ?_
        repeat (first | exact Below.refl _ _ | (refine Below.setCell ?_ (by simp) _) | (refine Below.alloc ?_ (by simp) _)))

/-- What is reserved ahead. -/
theorem qahead_any (q : Qt) (blk : Int) (w : World) (hq : q.ok) (hb : 0 ≤ blk ∧ blk ≤ 18446744073709551615) :
    Calls Tryz.prog 139 #[.agg #[.int .u8 q.kd, .int .u64 q.x, .int .u64 q.y, .int .u64 q.lv, .int .u64 q.wn], .int .u64 blk] w fun e w' => e = .returned (.agg #[.int .u8 (aheadM q blk).kd, .int .u64 (aheadM q blk).x, .int .u64 (aheadM q blk).y, .int .u64 (aheadM q blk).lv, .int .u64 (aheadM q blk).wn]) ∧ Below w.heap.size w w' := by
  rcases hq.kd with ⟨hk, _⟩ | ⟨hk, _⟩
  · have e : aheadM q blk = ⟨q.kd, q.x, q.y, orNever (q.lv + blk), q.wn⟩ := by unfold aheadM; rw [if_pos hk]
    rw [e]
    simp only [hk]
    exact qahead1 q.x q.y q.lv q.wn blk _ w (hide fun w1 => qaheadS 1 q.x q.y q.lv q.wn blk _ w1 hq.lv hb rfl)
  · have e : aheadM q blk = ⟨q.kd, q.x, q.y, if orNever (q.lv + blk) < q.x then orNever (q.lv + blk) else q.x, q.wn⟩ := by unfold aheadM; rw [if_neg (by omega)]
    rw [e]
    simp only [hk]
    exact qahead2 q.x q.y q.lv q.wn blk _ w (hide fun w1 => qaheadW 2 q.x q.y q.lv q.wn blk _ _ w1 hq.lv hb rfl rfl)
theorem aheadM_ok (q : Qt) (blk : Int) (hq : q.ok) (hb : 0 ≤ blk) : (aheadM q blk).ok := by
  have h1 := orNever_ok (q.lv + blk) (by have := hq.lv; omega)
  have h2 := hq.x
  unfold aheadM
  split
  · exact ⟨hq.kd, hq.x, hq.y, h1, hq.wn⟩
  · refine ⟨hq.kd, hq.x, hq.y, ?_, hq.wn⟩
    dsimp only
    split
    · exact h1
    · exact h2
end Go.Proofs.YtnlgndpcddngoaaGreatDoor
