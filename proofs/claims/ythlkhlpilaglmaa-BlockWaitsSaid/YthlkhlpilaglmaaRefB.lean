/-
  Package governorref10: what the document's own Step answers, kind by kind, for whatever block and numbers: a contract a kind.
-/
import Derived.Test.YthlkhlpilaglmaaStep
namespace Go.Proofs.Ythlkhlpilaglmaa
open Go.ChangeShapes Go.WideShapes Go.ChangeAt Go.RowKit

set_option maxRecDepth 100000 in
set_option maxHeartbeats 1000000 in
theorem rstep3 (q l o : Bool) (c : Int) (i : Bool) (p d : Int) (w : World) :
    Calls Try.prog 8 #[blk 3 q l o c, .bool i, .int .i64 p, .int .i64 d] w fun e w' => e = .returned (blk 3 (pulO o c (i && !l) (clamp 32767 p) (clamp 1000 d)) i (pulO o c (i && !l) (clamp 32767 p) (clamp 1000 d)) (pulC o c (i && !l) (clamp 32767 p) (clamp 1000 d))) ∧ Below w.heap.size w w' := by
  go_enter Try.func8, Try.ntmps8
  go_upto_region 1 with fail
  go_cut [2, 3] (fun s2 s3 wx => s2 = .int .i64 (clamp 32767 p) ∧ s3 = .int .i64 (clamp 1000 d) ∧ wx = (w.alloc (.cells #[.int .i64 3, .bool q, .bool l, .bool o, .int .i64 c] 23)).alloc (.cells #[.int .i64 0, .bool false, .bool false, .bool false, .int .i64 0] 23))
  case first =>
    go_wp2_with fail
    all_goals
      go_meet
      refine ⟨int_eq ?_, int_eq ?_, rfl⟩
    all_goals (unfold clamp; (repeat' split) <;> omega)
  case rest =>
  obtain ⟨rfl, rfl, rfl⟩ := hcut
  cases o
  · cases i <;> cases l
    · by_cases h : (clamp 32767 p) ≤ c
      all_goals
        go_wp2
        all_goals go_returns
        exact ⟨ret_b (by simp [pulO, pulC]) rfl (by simp [pulO, pulC]) (by simp [pulC]), by go_grown⟩
    · by_cases h : (clamp 32767 p) ≤ c
      all_goals
        go_wp2
        all_goals go_returns
        exact ⟨ret_b (by simp [pulO, pulC]) rfl (by simp [pulO, pulC]) (by simp [pulC]), by go_grown⟩
    · by_cases h : (clamp 32767 p) ≤ 0
      · go_wp2
        all_goals go_returns
        exact ⟨ret_b (by simp [pulO, pulC, h]) rfl (by simp [pulO, pulC, h]) (by simp [pulC]), by go_grown⟩
      · go_wp2
        all_goals go_returns
        exact ⟨ret_b (by simp [pulO, pulC, show ¬ (clamp 32767 p) ≤ 0 from by omega]) rfl (by simp [pulO, pulC, show ¬ (clamp 32767 p) ≤ 0 from by omega]) (by simp [pulC]), by go_grown⟩
    · by_cases h : (clamp 32767 p) ≤ c
      all_goals
        go_wp2
        all_goals go_returns
        exact ⟨ret_b (by simp [pulO, pulC]) rfl (by simp [pulO, pulC]) (by simp [pulC]), by go_grown⟩
  · cases i <;> cases l
    all_goals
      by_cases h : (clamp 32767 p) < wrap64 (c + (clamp 1000 d))
      · go_wp2
        all_goals go_returns
        exact ⟨ret_b (by simp [pulO, pulC, mn_l h]) rfl (by simp [pulO, pulC, mn_l h]) (by simp [pulC, mn_l h]), by go_grown⟩
      · by_cases h2 : (clamp 32767 p) ≤ wrap64 (c + (clamp 1000 d))
        · go_wp2
          all_goals go_returns
          exact ⟨ret_b (by simp only [pulO, pulC, mn_r' h]; simp; omega) rfl (by simp only [pulO, pulC, mn_r' h]; simp; omega) (by simp [pulC, mn_r' h]), by go_grown⟩
        · go_wp2
          all_goals go_returns
          exact ⟨ret_b (by simp only [pulO, pulC, mn_r' h]; simp; omega) rfl (by simp only [pulO, pulC, mn_r' h]; simp; omega) (by simp [pulC, mn_r' h]), by go_grown⟩

set_option maxRecDepth 100000 in
set_option maxHeartbeats 1000000 in
theorem rstep5 (q l o : Bool) (c : Int) (i : Bool) (p d : Int) (w : World) :
    Calls Try.prog 8 #[blk 5 q l o c, .bool i, .int .i64 p, .int .i64 d] w fun e w' => e = .returned (blk 5 (dnC o c (i && !l) (clamp 32767 p) == 0) i true (dnC o c (i && !l) (clamp 32767 p))) ∧ Below w.heap.size w w' := by
  go_enter Try.func8, Try.ntmps8
  go_upto_region 1 with fail
  go_cut [2, 3] (fun s2 s3 wx => s2 = .int .i64 (clamp 32767 p) ∧ s3 = .int .i64 (clamp 1000 d) ∧ wx = (w.alloc (.cells #[.int .i64 5, .bool q, .bool l, .bool o, .int .i64 c] 23)).alloc (.cells #[.int .i64 0, .bool false, .bool false, .bool false, .int .i64 0] 23))
  case first =>
    go_wp2_with fail
    all_goals
      go_meet
      refine ⟨int_eq ?_, int_eq ?_, rfl⟩
    all_goals (unfold clamp; (repeat' split) <;> omega)
  case rest =>
  obtain ⟨rfl, rfl, rfl⟩ := hcut
  cases o
  · cases i <;> cases l
    rotate_left 2
    · by_cases h : wrap64 ((clamp 32767 p) - 1) < 0
      · go_wp2
        all_goals go_returns
        exact ⟨ret_b (by simp [dnC, h]) rfl rfl (by simp [dnC, h]), by go_grown⟩
      · go_wp2
        all_goals go_returns
        exact ⟨ret_b (by simp only [dnC]; simp; rw [if_neg (by omega)]) rfl rfl (by simp only [dnC]; simp; omega), by go_grown⟩
    all_goals
      go_wp2
      all_goals go_returns
      all_goals exact ⟨rfl, by go_grown⟩
  · cases i <;> cases l
    rotate_left 2
    · by_cases h : wrap64 (c - 1) < 0
      · go_wp2
        all_goals go_returns
        exact ⟨ret_b (by simp [dnC, h]) rfl rfl (by simp [dnC, h]), by go_grown⟩
      · go_wp2
        all_goals go_returns
        exact ⟨ret_b (by simp only [dnC]; simp; rw [if_neg (by omega)]) rfl rfl (by simp only [dnC]; simp; omega), by go_grown⟩
    all_goals
      go_wp2
      all_goals go_returns
      all_goals exact ⟨rfl, by go_grown⟩
end Go.Proofs.Ythlkhlpilaglmaa
