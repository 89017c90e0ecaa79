/-
  Package block: what Step answers, kind by kind, for whatever block and numbers: a contract a kind.
-/
import Derived.Test.YthlkhlpilaglmaaParts
namespace Go.Proofs.Ythlkhlpilaglmaa
open Go.ChangeShapes Go.WideShapes Go.ChangeAt Go.RowKit

theorem int_eq {a b : Int} (h : a = b) : Value.int .i64 a = .int .i64 b := by rw [h]
theorem ret_b {k c c' : Int} {q q' l l' o o' : Bool} (hq : q = q') (hl : l = l') (ho : o = o') (hc : c = c') : Ending.returned (blk k q l o c) = .returned (blk k q' l' o' c') := by rw [hq, hl, ho, hc]
def upC (l : Bool) (c : Int) (i : Bool) : Int := if i && !l then mn (wrap64 (c + 1)) 32767 else c

set_option maxRecDepth 100000 in
set_option maxHeartbeats 1000000 in
theorem step1 (q l o : Bool) (c : Int) (i : Bool) (p d : Int) (w : World) :
    Calls Try.prog 7 #[blk 1 q l o c, .bool i, .int .i64 p, .int .i64 d] w fun e w' => e = .returned (blk 1 (onT o c i (clamp 32767 p) (clamp 1000 d)).1 i (onT o c i (clamp 32767 p) (clamp 1000 d)).2.1 (onT o c i (clamp 32767 p) (clamp 1000 d)).2.2) ∧ Below w.heap.size w w' := by
  go_enter Try.func7, Try.ntmps7
  go_upto_region 1 with fail
  go_cut [2] (fun s2 wx => s2 = .int .i64 (clamp 32767 p) ∧ wx = (w.alloc (.cells #[.int .i64 1, .bool q, .bool l, .bool o, .int .i64 c] 23)).alloc (.cells #[.int .i64 0, .bool false, .bool false, .bool false, .int .i64 0] 23))
  case first =>
    go_wp2_with fail
    all_goals
      go_meet
      refine ⟨int_eq ?_, rfl⟩
    all_goals (unfold clamp; (repeat' split) <;> omega)
  case rest =>
  obtain ⟨rfl, rfl⟩ := hcut
  go_upto_region 2 with fail
  go_cut [3] (fun s3 wx => s3 = .int .i64 (clamp 1000 d) ∧ wx = (w.alloc (.cells #[.int .i64 1, .bool q, .bool l, .bool o, .int .i64 c] 23)).alloc (.cells #[.int .i64 0, .bool false, .bool false, .bool false, .int .i64 0] 23))
  case first =>
    go_wp2_with fail
    all_goals
      go_meet
      refine ⟨int_eq ?_, rfl⟩
    all_goals (unfold clamp; (repeat' split) <;> omega)
  case rest =>
  obtain ⟨rfl, rfl⟩ := hcut
  cases i
  all_goals go_wp2_with fail
  all_goals (refine (on_any _ _ _ _ _ _ _ _ _).mono ?_; rintro e w1 ⟨rfl, rfl⟩)
  all_goals go_wp2_with fail
  all_goals go_returns
  all_goals exact ⟨rfl, by go_grown⟩

set_option maxRecDepth 100000 in
set_option maxHeartbeats 1000000 in
theorem step2 (q l o : Bool) (c : Int) (i : Bool) (p d : Int) (w : World) :
    Calls Try.prog 7 #[blk 2 q l o c, .bool i, .int .i64 p, .int .i64 d] w fun e w' => e = .returned (blk 2 (offT q c i (clamp 32767 p) (clamp 1000 d)).1 i o (offT q c i (clamp 32767 p) (clamp 1000 d)).2) ∧ Below w.heap.size w w' := by
  go_enter Try.func7, Try.ntmps7
  go_upto_region 1 with fail
  go_cut [2] (fun s2 wx => s2 = .int .i64 (clamp 32767 p) ∧ wx = (w.alloc (.cells #[.int .i64 2, .bool q, .bool l, .bool o, .int .i64 c] 23)).alloc (.cells #[.int .i64 0, .bool false, .bool false, .bool false, .int .i64 0] 23))
  case first =>
    go_wp2_with fail
    all_goals
      go_meet
      refine ⟨int_eq ?_, rfl⟩
    all_goals (unfold clamp; (repeat' split) <;> omega)
  case rest =>
  obtain ⟨rfl, rfl⟩ := hcut
  go_upto_region 2 with fail
  go_cut [3] (fun s3 wx => s3 = .int .i64 (clamp 1000 d) ∧ wx = (w.alloc (.cells #[.int .i64 2, .bool q, .bool l, .bool o, .int .i64 c] 23)).alloc (.cells #[.int .i64 0, .bool false, .bool false, .bool false, .int .i64 0] 23))
  case first =>
    go_wp2_with fail
    all_goals
      go_meet
      refine ⟨int_eq ?_, rfl⟩
    all_goals (unfold clamp; (repeat' split) <;> omega)
  case rest =>
  obtain ⟨rfl, rfl⟩ := hcut
  cases i
  all_goals go_wp2_with fail
  all_goals (refine (off_any _ _ _ _ _ _ _ _ _).mono ?_; rintro e w1 ⟨rfl, rfl⟩)
  all_goals go_wp2_with fail
  all_goals go_returns
  all_goals exact ⟨rfl, by go_grown⟩

set_option maxRecDepth 100000 in
set_option maxHeartbeats 1000000 in
theorem step3 (q l o : Bool) (c : Int) (i : Bool) (p d : Int) (w : World) :
    Calls Try.prog 7 #[blk 3 q l o c, .bool i, .int .i64 p, .int .i64 d] w fun e w' => e = .returned (blk 3 (pulO o c (i && !l) (clamp 32767 p) (clamp 1000 d)) i (pulO o c (i && !l) (clamp 32767 p) (clamp 1000 d)) (pulC o c (i && !l) (clamp 32767 p) (clamp 1000 d))) ∧ Below w.heap.size w w' := by
  go_enter Try.func7, Try.ntmps7
  go_upto_region 1 with fail
  go_cut [2] (fun s2 wx => s2 = .int .i64 (clamp 32767 p) ∧ wx = (w.alloc (.cells #[.int .i64 3, .bool q, .bool l, .bool o, .int .i64 c] 23)).alloc (.cells #[.int .i64 0, .bool false, .bool false, .bool false, .int .i64 0] 23))
  case first =>
    go_wp2_with fail
    all_goals
      go_meet
      refine ⟨int_eq ?_, rfl⟩
    all_goals (unfold clamp; (repeat' split) <;> omega)
  case rest =>
  obtain ⟨rfl, rfl⟩ := hcut
  go_upto_region 2 with fail
  go_cut [3] (fun s3 wx => s3 = .int .i64 (clamp 1000 d) ∧ wx = (w.alloc (.cells #[.int .i64 3, .bool q, .bool l, .bool o, .int .i64 c] 23)).alloc (.cells #[.int .i64 0, .bool false, .bool false, .bool false, .int .i64 0] 23))
  case first =>
    go_wp2_with fail
    all_goals
      go_meet
      refine ⟨int_eq ?_, rfl⟩
    all_goals (unfold clamp; (repeat' split) <;> omega)
  case rest =>
  obtain ⟨rfl, rfl⟩ := hcut
  cases i <;> cases l
  all_goals
    go_wp2_with fail
    refine (pul_any _ _ _ _ _ _ _ _ _).mono ?_
    rintro e w1 ⟨rfl, rfl⟩
    go_wp2_with fail
    go_returns
    exact ⟨rfl, by go_grown⟩

set_option maxRecDepth 100000 in
set_option maxHeartbeats 1000000 in
theorem step4 (q l o : Bool) (c : Int) (i : Bool) (p d : Int) (w : World) :
    Calls Try.prog 7 #[blk 4 q l o c, .bool i, .int .i64 p, .int .i64 d] w fun e w' => e = .returned (blk 4 (decide ((clamp 32767 p) ≤ upC l c i)) i o (upC l c i)) ∧ Below w.heap.size w w' := by
  go_enter Try.func7, Try.ntmps7
  go_upto_region 1 with fail
  go_cut [2] (fun s2 wx => s2 = .int .i64 (clamp 32767 p) ∧ wx = (w.alloc (.cells #[.int .i64 4, .bool q, .bool l, .bool o, .int .i64 c] 23)).alloc (.cells #[.int .i64 0, .bool false, .bool false, .bool false, .int .i64 0] 23))
  case first =>
    go_wp2_with fail
    all_goals
      go_meet
      refine ⟨int_eq ?_, rfl⟩
    all_goals (unfold clamp; (repeat' split) <;> omega)
  case rest =>
  obtain ⟨rfl, rfl⟩ := hcut
  go_upto_region 2 with fail
  go_cut [3] (fun s3 wx => s3 = .int .i64 (clamp 1000 d) ∧ wx = (w.alloc (.cells #[.int .i64 4, .bool q, .bool l, .bool o, .int .i64 c] 23)).alloc (.cells #[.int .i64 0, .bool false, .bool false, .bool false, .int .i64 0] 23))
  case first =>
    go_wp2_with fail
    all_goals
      go_meet
      refine ⟨int_eq ?_, rfl⟩
    all_goals (unfold clamp; (repeat' split) <;> omega)
  case rest =>
  obtain ⟨rfl, rfl⟩ := hcut
  cases i <;> cases l
  all_goals
    go_wp2
    all_goals go_returns
  · exact ⟨rfl, by go_grown⟩
  · exact ⟨rfl, by go_grown⟩
  · have h : 32767 < wrap64 (c + 1) := by assumption
    exact ⟨ret_b (by simp [upC, mn_l h]) rfl rfl (by simp [upC, mn_l h]), by go_grown⟩
  · have h : wrap64 (c + 1) ≤ 32767 := by assumption
    exact ⟨ret_b (by simp [upC, mn_r' h]) rfl rfl (by simp [upC, mn_r' h]), by go_grown⟩
  · exact ⟨rfl, by go_grown⟩

set_option maxRecDepth 100000 in
set_option maxHeartbeats 1000000 in
theorem step5 (q l o : Bool) (c : Int) (i : Bool) (p d : Int) (w : World) :
    Calls Try.prog 7 #[blk 5 q l o c, .bool i, .int .i64 p, .int .i64 d] w fun e w' => e = .returned (blk 5 (dnC o c (i && !l) (clamp 32767 p) == 0) i true (dnC o c (i && !l) (clamp 32767 p))) ∧ Below w.heap.size w w' := by
  go_enter Try.func7, Try.ntmps7
  go_upto_region 1 with fail
  go_cut [2] (fun s2 wx => s2 = .int .i64 (clamp 32767 p) ∧ wx = (w.alloc (.cells #[.int .i64 5, .bool q, .bool l, .bool o, .int .i64 c] 23)).alloc (.cells #[.int .i64 0, .bool false, .bool false, .bool false, .int .i64 0] 23))
  case first =>
    go_wp2_with fail
    all_goals
      go_meet
      refine ⟨int_eq ?_, rfl⟩
    all_goals (unfold clamp; (repeat' split) <;> omega)
  case rest =>
  obtain ⟨rfl, rfl⟩ := hcut
  go_upto_region 2 with fail
  go_cut [3] (fun s3 wx => s3 = .int .i64 (clamp 1000 d) ∧ wx = (w.alloc (.cells #[.int .i64 5, .bool q, .bool l, .bool o, .int .i64 c] 23)).alloc (.cells #[.int .i64 0, .bool false, .bool false, .bool false, .int .i64 0] 23))
  case first =>
    go_wp2_with fail
    all_goals
      go_meet
      refine ⟨int_eq ?_, rfl⟩
    all_goals (unfold clamp; (repeat' split) <;> omega)
  case rest =>
  obtain ⟨rfl, rfl⟩ := hcut
  cases i <;> cases l
  all_goals
    go_wp2_with fail
    refine (dn_any _ _ _ _ _ _ _ _).mono ?_
    rintro e w1 ⟨rfl, rfl⟩
    go_wp2_with fail
    go_returns
    exact ⟨rfl, by go_grown⟩

set_option maxRecDepth 100000 in
set_option maxHeartbeats 1000000 in
theorem step6 (q l o : Bool) (c : Int) (i : Bool) (p d : Int) (w : World) :
    Calls Try.prog 7 #[blk 6 q l o c, .bool i, .int .i64 p, .int .i64 d] w fun e w' => e = .returned (blk 6 (i && !l) i o c) ∧ Below w.heap.size w w' := by
  go_enter Try.func7, Try.ntmps7
  go_upto_region 1 with fail
  go_cut [2] (fun s2 wx => s2 = .int .i64 (clamp 32767 p) ∧ wx = (w.alloc (.cells #[.int .i64 6, .bool q, .bool l, .bool o, .int .i64 c] 23)).alloc (.cells #[.int .i64 0, .bool false, .bool false, .bool false, .int .i64 0] 23))
  case first =>
    go_wp2_with fail
    all_goals
      go_meet
      refine ⟨int_eq ?_, rfl⟩
    all_goals (unfold clamp; (repeat' split) <;> omega)
  case rest =>
  obtain ⟨rfl, rfl⟩ := hcut
  go_upto_region 2 with fail
  go_cut [3] (fun s3 wx => s3 = .int .i64 (clamp 1000 d) ∧ wx = (w.alloc (.cells #[.int .i64 6, .bool q, .bool l, .bool o, .int .i64 c] 23)).alloc (.cells #[.int .i64 0, .bool false, .bool false, .bool false, .int .i64 0] 23))
  case first =>
    go_wp2_with fail
    all_goals
      go_meet
      refine ⟨int_eq ?_, rfl⟩
    all_goals (unfold clamp; (repeat' split) <;> omega)
  case rest =>
  obtain ⟨rfl, rfl⟩ := hcut
  cases i <;> cases l
  all_goals
    go_wp2
    go_returns
    exact ⟨rfl, by go_grown⟩

set_option maxRecDepth 100000 in
set_option maxHeartbeats 1000000 in
theorem step7 (q l o : Bool) (c : Int) (i : Bool) (p d : Int) (w : World) :
    Calls Try.prog 7 #[blk 7 q l o c, .bool i, .int .i64 p, .int .i64 d] w fun e w' => e = .returned (blk 7 (!i && l) i o c) ∧ Below w.heap.size w w' := by
  go_enter Try.func7, Try.ntmps7
  go_upto_region 1 with fail
  go_cut [2] (fun s2 wx => s2 = .int .i64 (clamp 32767 p) ∧ wx = (w.alloc (.cells #[.int .i64 7, .bool q, .bool l, .bool o, .int .i64 c] 23)).alloc (.cells #[.int .i64 0, .bool false, .bool false, .bool false, .int .i64 0] 23))
  case first =>
    go_wp2_with fail
    all_goals
      go_meet
      refine ⟨int_eq ?_, rfl⟩
    all_goals (unfold clamp; (repeat' split) <;> omega)
  case rest =>
  obtain ⟨rfl, rfl⟩ := hcut
  go_upto_region 2 with fail
  go_cut [3] (fun s3 wx => s3 = .int .i64 (clamp 1000 d) ∧ wx = (w.alloc (.cells #[.int .i64 7, .bool q, .bool l, .bool o, .int .i64 c] 23)).alloc (.cells #[.int .i64 0, .bool false, .bool false, .bool false, .int .i64 0] 23))
  case first =>
    go_wp2_with fail
    all_goals
      go_meet
      refine ⟨int_eq ?_, rfl⟩
    all_goals (unfold clamp; (repeat' split) <;> omega)
  case rest =>
  obtain ⟨rfl, rfl⟩ := hcut
  cases i <;> cases l
  all_goals
    go_wp2
    go_returns
    exact ⟨rfl, by go_grown⟩

set_option maxRecDepth 100000 in
set_option maxHeartbeats 1000000 in
theorem step0 (k : Int) (q l o : Bool) (c : Int) (i : Bool) (p d : Int) (h : k < 1 ∨ 7 < k) (w : World) :
    Calls Try.prog 7 #[blk k q l o c, .bool i, .int .i64 p, .int .i64 d] w fun e w' => e = .returned (blk k q l o c) ∧ Below w.heap.size w w' := by
  go_enter Try.func7, Try.ntmps7
  go_upto_region 1 with fail
  go_cut [2] (fun s2 wx => s2 = .int .i64 (clamp 32767 p) ∧ wx = (w.alloc (.cells #[.int .i64 k, .bool q, .bool l, .bool o, .int .i64 c] 23)).alloc (.cells #[.int .i64 0, .bool false, .bool false, .bool false, .int .i64 0] 23))
  case first =>
    go_wp2_with fail
    all_goals
      go_meet
      refine ⟨int_eq ?_, rfl⟩
    all_goals (unfold clamp; (repeat' split) <;> omega)
  case rest =>
  obtain ⟨rfl, rfl⟩ := hcut
  go_upto_region 2 with fail
  go_cut [3] (fun s3 wx => s3 = .int .i64 (clamp 1000 d) ∧ wx = (w.alloc (.cells #[.int .i64 k, .bool q, .bool l, .bool o, .int .i64 c] 23)).alloc (.cells #[.int .i64 0, .bool false, .bool false, .bool false, .int .i64 0] 23))
  case first =>
    go_wp2_with fail
    all_goals
      go_meet
      refine ⟨int_eq ?_, rfl⟩
    all_goals (unfold clamp; (repeat' split) <;> omega)
  case rest =>
  obtain ⟨rfl, rfl⟩ := hcut
  cases i <;> cases l
  all_goals
    rcases h with h | h
    all_goals
      go_wp2
      go_returns
      exact ⟨rfl, by go_grown⟩
end Go.Proofs.Ythlkhlpilaglmaa
