/-
  Package governorref10: what the document's own Step answers, kind by kind, for whatever block and numbers: a contract a kind.
-/
import Derived.Test.YthlkhlpilaglmaaStep
namespace Go.Proofs.Ythlkhlpilaglmaa
open Go.ChangeShapes Go.WideShapes Go.ChangeAt Go.RowKit

set_option maxRecDepth 100000 in
set_option maxHeartbeats 1000000 in
theorem rstep6 (q l o : Bool) (c : Int) (i : Bool) (p d : Int) (w : World) :
    Calls Try.prog 8 #[blk 6 q l o c, .bool i, .int .i64 p, .int .i64 d] w fun e w' => e = .returned (blk 6 (i && !l) i o c) ∧ Below w.heap.size w w' := by
  go_enter Try.func8, Try.ntmps8
  go_upto_region 1 with fail
  go_cut [2, 3] (fun s2 s3 wx => s2 = .int .i64 (clamp 32767 p) ∧ s3 = .int .i64 (clamp 1000 d) ∧ wx = (w.alloc (.cells #[.int .i64 6, .bool q, .bool l, .bool o, .int .i64 c] 23)).alloc (.cells #[.int .i64 0, .bool false, .bool false, .bool false, .int .i64 0] 23))
  case first =>
    go_wp2_with fail
    all_goals
      go_meet
      refine ⟨int_eq ?_, int_eq ?_, rfl⟩
    all_goals (unfold clamp; (repeat' split) <;> omega)
  case rest =>
  obtain ⟨rfl, rfl, rfl⟩ := hcut
  cases i <;> cases l
  all_goals
    go_wp2
    go_returns
    exact ⟨rfl, by go_grown⟩

set_option maxRecDepth 100000 in
set_option maxHeartbeats 1000000 in
theorem rstep7 (q l o : Bool) (c : Int) (i : Bool) (p d : Int) (w : World) :
    Calls Try.prog 8 #[blk 7 q l o c, .bool i, .int .i64 p, .int .i64 d] w fun e w' => e = .returned (blk 7 (!i && l) i o c) ∧ Below w.heap.size w w' := by
  go_enter Try.func8, Try.ntmps8
  go_upto_region 1 with fail
  go_cut [2, 3] (fun s2 s3 wx => s2 = .int .i64 (clamp 32767 p) ∧ s3 = .int .i64 (clamp 1000 d) ∧ wx = (w.alloc (.cells #[.int .i64 7, .bool q, .bool l, .bool o, .int .i64 c] 23)).alloc (.cells #[.int .i64 0, .bool false, .bool false, .bool false, .int .i64 0] 23))
  case first =>
    go_wp2_with fail
    all_goals
      go_meet
      refine ⟨int_eq ?_, int_eq ?_, rfl⟩
    all_goals (unfold clamp; (repeat' split) <;> omega)
  case rest =>
  obtain ⟨rfl, rfl, rfl⟩ := hcut
  cases i <;> cases l
  all_goals
    go_wp2
    go_returns
    exact ⟨rfl, by go_grown⟩

set_option maxRecDepth 100000 in
set_option maxHeartbeats 1000000 in
theorem rstep0 (k : Int) (q l o : Bool) (c : Int) (i : Bool) (p d : Int) (h : k < 1 ∨ 7 < k) (w : World) :
    Calls Try.prog 8 #[blk k q l o c, .bool i, .int .i64 p, .int .i64 d] w fun e w' => e = .returned (blk k q l o c) ∧ Below w.heap.size w w' := by
  go_enter Try.func8, Try.ntmps8
  go_upto_region 1 with fail
  go_cut [2, 3] (fun s2 s3 wx => s2 = .int .i64 (clamp 32767 p) ∧ s3 = .int .i64 (clamp 1000 d) ∧ wx = (w.alloc (.cells #[.int .i64 k, .bool q, .bool l, .bool o, .int .i64 c] 23)).alloc (.cells #[.int .i64 0, .bool false, .bool false, .bool false, .int .i64 0] 23))
  case first =>
    go_wp2_with fail
    all_goals
      go_meet
      refine ⟨int_eq ?_, int_eq ?_, rfl⟩
    all_goals (unfold clamp; (repeat' split) <;> omega)
  case rest =>
  obtain ⟨rfl, rfl, rfl⟩ := hcut
  cases i <;> cases l
  all_goals
    rcases h with h | h
    all_goals
      go_wp2
      go_returns
      exact ⟨rfl, by go_grown⟩
end Go.Proofs.Ythlkhlpilaglmaa
