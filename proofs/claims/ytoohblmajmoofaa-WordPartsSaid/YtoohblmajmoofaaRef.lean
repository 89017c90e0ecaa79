/-
  The word layer: the document's own answer, for whatever operator and numbers.
-/
import Derived.Test.YtoohblmajmoofaaBase
namespace Go.Proofs.Ytoohblmajmoofaa
open Go.ChangeShapes Go.WideShapes Go.ChangeAt Go.RowKit

theorem rdo_fit (op a b : Int) (h : 1 ≤ op ∧ op ≤ 3) (w : World) :
    Calls Try.prog 10 #[.int .i64 op, .int .i64 a, .int .i64 b] w fun e w' => e = .returned (.tuple #[.int .i64 (doV op a b), .bool (doB op b)]) ∧ w = w' := by
  have h6 : op = 1 ∨ op = 2 ∨ op = 3 := by omega
  clear h
  rcases h6 with rfl | rfl | rfl
  all_goals
    go_enter Try.func10, Try.ntmps10
    go_wp2_with (go_at_call 12; refine (rfit_any _ _).mono ?_; rintro e w' ⟨rfl, rfl⟩)
    go_ret2
    exact ⟨ret_ib (by simp [doV, fit_wrap64]) (by simp [doB]), rfl⟩
theorem rdo_div (op a b : Int) (h : op = 4 ∨ op = 5) (w : World) :
    Calls Try.prog 10 #[.int .i64 op, .int .i64 a, .int .i64 b] w fun e w' => e = .returned (.tuple #[.int .i64 (doV op a b), .bool (doB op b)]) ∧ w = w' := by
  by_cases hb : b = 0
  · subst hb
    rcases h with rfl | rfl
    all_goals
      go_enter Try.func10, Try.ntmps10
      go_wp2
      go_ret2
      exact ⟨ret_ib (by simp [doV, dV]) (by simp [doB, dB]), rfl⟩
  · rcases h with rfl | rfl
    all_goals
      go_enter Try.func10, Try.ntmps10
      go_wp2_with (go_at_call 12; refine (rfit_any _ _).mono ?_; rintro e w' ⟨rfl, rfl⟩)
      go_ret2
      exact ⟨ret_ib (by simp [doV, dV, hb, fit_wrap64]) (by simp [doB, dB, hb]), rfl⟩
theorem rdo_cmp (op a b : Int) (h : 6 ≤ op ∧ op ≤ 11) (w : World) :
    Calls Try.prog 10 #[.int .i64 op, .int .i64 a, .int .i64 b] w fun e w' => e = .returned (.tuple #[.int .i64 (doV op a b), .bool (doB op b)]) ∧ w = w' := by
  have h6 : op = 6 ∨ op = 7 ∨ op = 8 ∨ op = 9 ∨ op = 10 ∨ op = 11 := by omega
  clear h
  rcases h6 with rfl | rfl | rfl | rfl | rfl | rfl
  all_goals
    go_enter Try.func10, Try.ntmps10
    go_wp2_with (go_at_call 21; refine (one_any _ _).mono ?_; rintro e w' ⟨rfl, rfl⟩)
    go_ret2
    exact ⟨ret_ib (by simp [doV, hB]) (by simp [doB]), rfl⟩
theorem rdo_and (a b : Int) (w : World) :
    Calls Try.prog 10 #[.int .i64 12, .int .i64 a, .int .i64 b] w fun e w' => e = .returned (.tuple #[.int .i64 (doV 12 a b), .bool (doB 12 b)]) ∧ w = w' := by
  by_cases ha : (a != 0) = true
  · rw [show doV 12 a b = b2i (b != 0) from by simp [doV, tB, ha]]
    go_enter Try.func10, Try.ntmps10
    go_wp2_with (go_at_call 21; refine (one_any _ _).mono ?_; rintro e w' ⟨rfl, rfl⟩)
    go_ret2
    exact ⟨ret_ib rfl (by simp [doB]), rfl⟩
  · rw [show doV 12 a b = b2i false from by simp [doV, tB, ha]]
    go_enter Try.func10, Try.ntmps10
    go_wp2_with (go_at_call 21; refine (one_any _ _).mono ?_; rintro e w' ⟨rfl, rfl⟩)
    go_ret2
    exact ⟨ret_ib rfl (by simp [doB]), rfl⟩
theorem rdo_or (a b : Int) (w : World) :
    Calls Try.prog 10 #[.int .i64 13, .int .i64 a, .int .i64 b] w fun e w' => e = .returned (.tuple #[.int .i64 (doV 13 a b), .bool (doB 13 b)]) ∧ w = w' := by
  by_cases ha : (a != 0) = true
  · rw [show doV 13 a b = b2i true from by simp [doV, tB, ha]]
    go_enter Try.func10, Try.ntmps10
    go_wp2_with (go_at_call 21; refine (one_any _ _).mono ?_; rintro e w' ⟨rfl, rfl⟩)
    go_ret2
    exact ⟨ret_ib rfl (by simp [doB]), rfl⟩
  · rw [show doV 13 a b = b2i (b != 0) from by simp [doV, tB, ha]]
    go_enter Try.func10, Try.ntmps10
    go_wp2_with (go_at_call 21; refine (one_any _ _).mono ?_; rintro e w' ⟨rfl, rfl⟩)
    go_ret2
    exact ⟨ret_ib rfl (by simp [doB]), rfl⟩
theorem rdo_xor (a b : Int) (w : World) :
    Calls Try.prog 10 #[.int .i64 14, .int .i64 a, .int .i64 b] w fun e w' => e = .returned (.tuple #[.int .i64 (doV 14 a b), .bool (doB 14 b)]) ∧ w = w' := by
  rw [show doV 14 a b = b2i ((a != 0) != (b != 0)) from by simp [doV, tB]]
  go_enter Try.func10, Try.ntmps10
  go_wp2_with (go_at_call 21; refine (one_any _ _).mono ?_; rintro e w' ⟨rfl, rfl⟩)
  go_ret2
  exact ⟨ret_ib rfl (by simp [doB]), rfl⟩
theorem rdo_none (op a b : Int) (h : op < 1 ∨ 14 < op) (w : World) :
    Calls Try.prog 10 #[.int .i64 op, .int .i64 a, .int .i64 b] w fun e w' => e = .returned (.tuple #[.int .i64 (doV op a b), .bool (doB op b)]) ∧ w = w' := by
  rw [show doV op a b = 0 from by unfold doV; repeat (rw [if_neg (by omega)])]
  rw [show doB op b = false from by unfold doB; rw [if_neg (by omega)]; simp; omega]
  rcases h with h | h
  all_goals
    go_enter Try.func10, Try.ntmps10
    go_wp2
    go_ret2
    exact ⟨rfl, rfl⟩
theorem rdo_any (op a b : Int) (w : World) :
    Calls Try.prog 10 #[.int .i64 op, .int .i64 a, .int .i64 b] w fun e w' => e = .returned (.tuple #[.int .i64 (doV op a b), .bool (doB op b)]) ∧ w = w' := by
  by_cases h0 : op < 1 ∨ 14 < op
  · exact rdo_none op a b h0 w
  by_cases h1 : 1 ≤ op ∧ op ≤ 3
  · exact rdo_fit op a b h1 w
  by_cases h2 : op = 4 ∨ op = 5
  · exact rdo_div op a b h2 w
  by_cases h3 : 6 ≤ op ∧ op ≤ 11
  · exact rdo_cmp op a b h3 w
  have h4 : op = 12 ∨ op = 13 ∨ op = 14 := by omega
  rcases h4 with rfl | rfl | rfl
  · exact rdo_and a b w
  · exact rdo_or a b w
  · exact rdo_xor a b w

/-! ### awake -/
theorem aw_add (w : World) : Calls Try.prog 9 #[.int .i64 1, .int .i64 32767, .int .i64 1] w fun e w' => e = .returned (.tuple #[.int .i64 (-32768), .bool true]) ∧ w = w' :=
  (do_any 1 32767 1 w).mono fun _ _ h => h
theorem aw_div (w : World) : Calls Try.prog 9 #[.int .i64 4, .int .i64 1, .int .i64 0] w fun e w' => e = .returned (.tuple #[.int .i64 0, .bool false]) ∧ w = w' :=
  (do_any 4 1 0 w).mono fun _ _ h => h
theorem aw_fit (w : World) : Calls Try.prog 11 #[.int .i64 65537] w fun e w' => e = .returned (.int .i64 1) ∧ w = w' :=
  (fit_any 65537 w).mono fun _ _ h => h
theorem aw_neg (w : World) : Calls Try.prog 13 #[.int .i64 (-32768)] w fun e w' => e = .returned (.int .i64 (-32768)) ∧ w = w' :=
  (neg_any (-32768) w).mono fun _ _ h => h
theorem aw_not (w : World) : Calls Try.prog 15 #[.int .i64 0] w fun e w' => e = .returned (.int .i64 1) ∧ w = w' :=
  (not_any 0 w).mono fun _ _ h => h
theorem awake_any (w : World) : Calls Try.prog 17 #[] w fun e w' => e = .returned (.bool true) ∧ w = w' := by
  go_enter Try.func17, Try.ntmps17
  go_wp2_with fail
  refine (aw_add _).mono ?_; rintro e w' ⟨rfl, rfl⟩
  go_wp2_with fail
  refine (aw_div _).mono ?_; rintro e w' ⟨rfl, rfl⟩
  go_wp2_with (first | (go_at_call 11; refine (aw_fit _).mono ?_; rintro e w' ⟨rfl, rfl⟩) | (go_at_call 13; refine (aw_neg _).mono ?_; rintro e w' ⟨rfl, rfl⟩) | (go_at_call 15; refine (aw_not _).mono ?_; rintro e w' ⟨rfl, rfl⟩))
  go_ret
  exact ⟨rfl, rfl⟩
end Go.Proofs.Ytoohblmajmoofaa
