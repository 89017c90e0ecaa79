/-
  Package governorref10: what the document's own Step answers, kind by kind, for whatever block and numbers: a contract a kind.
-/
import Derived.Test.YthlkhlpilaglmaaStep
namespace Go.Proofs.Ythlkhlpilaglmaa
open Go.ChangeShapes Go.WideShapes Go.ChangeAt Go.RowKit

set_option maxRecDepth 100000 in
set_option maxHeartbeats 1000000 in
theorem rstep1 (q l o : Bool) (c : Int) (i : Bool) (p d : Int) (w : World) :
    Calls Try.prog 8 #[blk 1 q l o c, .bool i, .int .i64 p, .int .i64 d] w fun e w' => e = .returned (blk 1 (onT o c i (clamp 32767 p) (clamp 1000 d)).1 i (onT o c i (clamp 32767 p) (clamp 1000 d)).2.1 (onT o c i (clamp 32767 p) (clamp 1000 d)).2.2) ∧ Below w.heap.size w w' := by
  go_enter Try.func8, Try.ntmps8
  go_upto_region 1 with fail
  go_cut [2, 3] (fun s2 s3 wx => s2 = .int .i64 (clamp 32767 p) ∧ s3 = .int .i64 (clamp 1000 d) ∧ wx = (w.alloc (.cells #[.int .i64 1, .bool q, .bool l, .bool o, .int .i64 c] 23)).alloc (.cells #[.int .i64 0, .bool false, .bool false, .bool false, .int .i64 0] 23))
  case first =>
    go_wp2_with fail
    all_goals
      go_meet
      refine ⟨int_eq ?_, int_eq ?_, rfl⟩
    all_goals (unfold clamp; (repeat' split) <;> omega)
  case rest =>
  obtain ⟨rfl, rfl, rfl⟩ := hcut
  cases i
  · go_wp2
    go_returns
    exact ⟨rfl, by go_grown⟩
  · cases o
    · go_wp2
      go_returns
      exact ⟨rfl, by go_grown⟩
    · go_wp2
      all_goals go_returns
      · have h : (clamp 32767 p) < wrap64 (c + (clamp 1000 d)) := by assumption
        exact ⟨ret_b (by simp [onT, mn_l h]) rfl rfl (by simp [onT, mn_l h]), by go_grown⟩
      · have h : wrap64 (c + (clamp 1000 d)) ≤ (clamp 32767 p) := by assumption
        exact ⟨ret_b (by simp [onT, mn_r' h]) rfl rfl (by simp [onT, mn_r' h]), by go_grown⟩

set_option maxRecDepth 100000 in
set_option maxHeartbeats 1000000 in
theorem rstep2 (q l o : Bool) (c : Int) (i : Bool) (p d : Int) (w : World) :
    Calls Try.prog 8 #[blk 2 q l o c, .bool i, .int .i64 p, .int .i64 d] w fun e w' => e = .returned (blk 2 (offT q c i (clamp 32767 p) (clamp 1000 d)).1 i o (offT q c i (clamp 32767 p) (clamp 1000 d)).2) ∧ Below w.heap.size w w' := by
  go_enter Try.func8, Try.ntmps8
  go_upto_region 1 with fail
  go_cut [2, 3] (fun s2 s3 wx => s2 = .int .i64 (clamp 32767 p) ∧ s3 = .int .i64 (clamp 1000 d) ∧ wx = (w.alloc (.cells #[.int .i64 2, .bool q, .bool l, .bool o, .int .i64 c] 23)).alloc (.cells #[.int .i64 0, .bool false, .bool false, .bool false, .int .i64 0] 23))
  case first =>
    go_wp2_with fail
    all_goals
      go_meet
      refine ⟨int_eq ?_, int_eq ?_, rfl⟩
    all_goals (unfold clamp; (repeat' split) <;> omega)
  case rest =>
  obtain ⟨rfl, rfl, rfl⟩ := hcut
  cases i
  · cases q
    · go_wp2
      go_returns
      exact ⟨rfl, by go_grown⟩
    · go_wp2
      all_goals go_returns
      · have h : (clamp 32767 p) < wrap64 (c + (clamp 1000 d)) := by assumption
        exact ⟨ret_b (by simp [offT, mn_l h]) rfl rfl (by simp [offT, mn_l h]), by go_grown⟩
      · have h : wrap64 (c + (clamp 1000 d)) ≤ (clamp 32767 p) := by assumption
        exact ⟨ret_b (by simp [offT, mn_r' h]) rfl rfl (by simp [offT, mn_r' h]), by go_grown⟩
  · go_wp2
    go_returns
    exact ⟨rfl, by go_grown⟩

set_option maxRecDepth 100000 in
set_option maxHeartbeats 1000000 in
theorem rstep4 (q l o : Bool) (c : Int) (i : Bool) (p d : Int) (w : World) :
    Calls Try.prog 8 #[blk 4 q l o c, .bool i, .int .i64 p, .int .i64 d] w fun e w' => e = .returned (blk 4 (decide ((clamp 32767 p) ≤ upC l c i)) i o (upC l c i)) ∧ Below w.heap.size w w' := by
  go_enter Try.func8, Try.ntmps8
  go_upto_region 1 with fail
  go_cut [2, 3] (fun s2 s3 wx => s2 = .int .i64 (clamp 32767 p) ∧ s3 = .int .i64 (clamp 1000 d) ∧ wx = (w.alloc (.cells #[.int .i64 4, .bool q, .bool l, .bool o, .int .i64 c] 23)).alloc (.cells #[.int .i64 0, .bool false, .bool false, .bool false, .int .i64 0] 23))
  case first =>
    go_wp2_with fail
    all_goals
      go_meet
      refine ⟨int_eq ?_, int_eq ?_, rfl⟩
    all_goals (unfold clamp; (repeat' split) <;> omega)
  case rest =>
  obtain ⟨rfl, rfl, rfl⟩ := hcut
  cases i <;> cases l
  all_goals
    go_wp2
    all_goals go_returns
  · exact ⟨rfl, by go_grown⟩
  · exact ⟨rfl, by go_grown⟩
  · have h : 32767 < wrap64 (c + 1) := by assumption
    exact ⟨ret_b (by simp [upC, mn_l h]) rfl rfl (by simp [upC, mn_l h]), by go_grown⟩
  · have h : wrap64 (c + 1) ≤ 32767 := by assumption
    exact ⟨ret_b (by simp [upC, mn_r' h]) rfl rfl (by simp [upC, mn_r' h]), by go_grown⟩
  · exact ⟨rfl, by go_grown⟩
end Go.Proofs.Ythlkhlpilaglmaa
