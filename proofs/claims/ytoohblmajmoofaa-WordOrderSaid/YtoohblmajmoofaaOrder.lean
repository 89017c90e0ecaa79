/-
  WordOrder: of any two numbers just one of lesser, equal and greater is 1, the other comparisons are what these are not, and OR, AND, XOR and NOT belong together; no condition.
-/
import Derived.Test.YtoohblmajmoofaaRows
import Derived.WalkKit
import Derived.ProofKit
import Derived.OpenShut
import Derived.Lib.Hide
import Derived.Test.YtoohblmajmoofaaRef
namespace Go.Proofs.Ytoohblmajmoofaa.wordOrder
open Go.ChangeShapes Go.WideShapes Go.ChangeAt Go.RowKit
set_option linter.unusedVariables false      -- a walk need not use every 'w<i>' (that an integer argument fits its kind)

theorem own : ownKnob Try.prog.godebug = none := by kernel_rfl

theorem b2i_bd (b : Bool) : 0 ≤ b2i b ∧ b2i b ≤ 1 := by cases b <;> simp [b2i]
theorem dlt (a b : Int) : doV 8 a b = b2i (decide (a < b)) := by simp [doV, hB]
theorem deq (a b : Int) : doV 6 a b = b2i (a == b) := by simp [doV, hB]
theorem dgt (a b : Int) : doV 10 a b = b2i (decide (b < a)) := by simp [doV, hB]
theorem dle (a b : Int) : doV 9 a b = b2i (decide (a ≤ b)) := by simp [doV, hB]
theorem dge (a b : Int) : doV 11 a b = b2i (decide (b ≤ a)) := by simp [doV, hB]
theorem dne (a b : Int) : doV 7 a b = b2i (a != b) := by simp [doV, hB]
theorem dand (a b : Int) : doV 12 a b = b2i (a != 0 && b != 0) := by simp [doV, tB]
theorem dor (a b : Int) : doV 13 a b = b2i (a != 0 || b != 0) := by simp [doV, tB]
theorem dxor (a b : Int) : doV 14 a b = b2i ((a != 0) != (b != 0)) := by simp [doV, tB]
theorem three (a b : Int) :
    (a < b ∧ (a == b) = false ∧ doV 8 a b = 1 ∧ doV 6 a b = 0 ∧ doV 10 a b = 0 ∧ doV 9 a b = 1 ∧ doV 11 a b = 0 ∧ doV 7 a b = 1) ∨
    (¬ a < b ∧ (a == b) = true ∧ doV 8 a b = 0 ∧ doV 6 a b = 1 ∧ doV 10 a b = 0 ∧ doV 9 a b = 1 ∧ doV 11 a b = 1 ∧ doV 7 a b = 0) ∨
    (¬ a < b ∧ (a == b) = false ∧ doV 8 a b = 0 ∧ doV 6 a b = 0 ∧ doV 10 a b = 1 ∧ doV 9 a b = 0 ∧ doV 11 a b = 1 ∧ doV 7 a b = 1) := by
  rw [dlt, deq, dgt, dle, dge, dne]
  rcases Int.lt_trichotomy a b with k | k | k
  · exact .inl (by simp [b2i, k, show ¬ a = b from by omega, show ¬ b < a from by omega, show a ≤ b from by omega, show ¬ b ≤ a from by omega])
  · exact .inr (.inl (by simp [b2i, k]))
  · exact .inr (.inr (by simp [b2i, k, show ¬ a = b from by omega, show ¬ a < b from by omega, show ¬ a ≤ b from by omega, show b ≤ a from by omega]))
theorem four (a b : Int) :
    ((a == 0) = true ∧ (b == 0) = true ∧ doV 12 a b = 0 ∧ doV 13 a b = 0 ∧ doV 14 a b = 0) ∨
    ((a == 0) = true ∧ (b == 0) = false ∧ doV 12 a b = 0 ∧ doV 13 a b = 1 ∧ doV 14 a b = 1) ∨
    ((a == 0) = false ∧ (b == 0) = true ∧ doV 12 a b = 0 ∧ doV 13 a b = 1 ∧ doV 14 a b = 1) ∨
    ((a == 0) = false ∧ (b == 0) = false ∧ doV 12 a b = 1 ∧ doV 13 a b = 1 ∧ doV 14 a b = 0) := by
  rw [dand, dor, dxor, bne, bne]
  rcases ha : (a == 0) <;> rcases hb : (b == 0) <;> simp [b2i]
/-- one call of Do, its number behind a name -/
theorem do_ex (op a b : Int) (w : World) : Calls Try.prog 9 #[.int .i64 op, .int .i64 a, .int .i64 b] w fun e w' => ∃ v t, e = .returned (.tuple #[.int .i64 v, .bool t]) ∧ Hid (v = doV op a b) ∧ w = w' :=
  (do_any op a b w).mono fun _ _ ⟨h, hw⟩ => ⟨_, _, h, Lib.hid rfl, hw⟩
theorem not_t (w : World) : Calls Try.prog 15 #[.int .i64 0] w fun e w' => e = .returned (.int .i64 1) ∧ w = w' := not_any 0 w
theorem not_f (w : World) : Calls Try.prog 15 #[.int .i64 1] w fun e w' => e = .returned (.int .i64 0) ∧ w = w' := not_any 1 w
theorem not_0 (n : Int) (h : (n == 0) = true) (w : World) : Calls Try.prog 15 #[.int .i64 n] w fun e w' => e = .returned (.int .i64 1) ∧ w = w' :=
  (not_any n w).mono fun _ _ ⟨e, hw⟩ => ⟨by rw [e, h]; rfl, hw⟩
theorem not_1 (n : Int) (h : (n == 0) = false) (w : World) : Calls Try.prog 15 #[.int .i64 n] w fun e w' => e = .returned (.int .i64 0) ∧ w = w' :=
  (not_any n w).mono fun _ _ ⟨e, hw⟩ => ⟨by rw [e, h]; rfl, hw⟩

theorem two (a : Int) :
    ((a == 0) = true ∧ (a == 0) = true ∧ doV 12 a a = 0 ∧ doV 13 a a = 0 ∧ doV 14 a a = 0) ∨
    ((a == 0) = false ∧ (a == 0) = false ∧ doV 12 a a = 1 ∧ doV 13 a a = 1 ∧ doV 14 a a = 0) := by
  rw [dand, dor, dxor, bne]
  rcases ha : (a == 0) <;> simp [b2i]
set_option maxRecDepth 100000 in
set_option maxHeartbeats 2000000 in
theorem walk_lt (a0 a1 : Int) (k : decide (a0 < a1) = true) (kb : (a0 == a1) = false) (x1 : doV 8 a0 a1 = 1) (x2 : doV 6 a0 a1 = 0) (x3 : doV 10 a0 a1 = 0) (x4 : doV 9 a0 a1 = 1) (x5 : doV 11 a0 a1 = 0) (x6 : doV 7 a0 a1 = 1) (w : World) :
    Calls Try.prog 7 #[.int .i64 a0, .int .i64 a1] w fun e w' => e = .returned (.bool true) ∧ Grown w w' := by
  have X1 := Lib.hid x1; clear x1
  have X2 := Lib.hid x2; clear x2
  have X3 := Lib.hid x3; clear x3
  have X4 := Lib.hid x4; clear x4
  have X5 := Lib.hid x5; clear x5
  have X6 := Lib.hid x6; clear x6
  go_enter Try.func7, Try.ntmps7
  go_wp2_with fail
  refine (do_ex _ _ _ _).mono ?_; rintro e w' ⟨lt, t1, rfl, Hlt, rfl⟩
  go_wp2_with fail
  refine (do_ex _ _ _ _).mono ?_; rintro e w' ⟨eq, t2, rfl, Heq, rfl⟩
  go_wp2_with fail
  refine (do_ex _ _ _ _).mono ?_; rintro e w' ⟨gt, t3, rfl, Hgt, rfl⟩
  go_wp2_with fail
  refine (do_ex _ _ _ _).mono ?_; rintro e w' ⟨le, t4, rfl, Hle, rfl⟩
  go_wp2_with fail
  refine (do_ex _ _ _ _).mono ?_; rintro e w' ⟨ge, t5, rfl, Hge, rfl⟩
  go_wp2_with fail
  refine (do_ex _ _ _ _).mono ?_; rintro e w' ⟨ne, t6, rfl, Hne, rfl⟩
  go_wp2_with fail
  refine (do_ex _ _ _ _).mono ?_; rintro e w' ⟨an, t7, rfl, Han, rfl⟩
  go_wp2_with fail
  refine (do_ex _ _ _ _).mono ?_; rintro e w' ⟨o, t8, rfl, Ho, rfl⟩
  go_wp2_with fail
  refine (do_ex _ _ _ _).mono ?_; rintro e w' ⟨xo, t9, rfl, Hxo, rfl⟩
  obtain rfl := Hlt.out.trans X1.out
  obtain rfl := Heq.out.trans X2.out
  obtain rfl := Hgt.out.trans X3.out
  obtain rfl := Hle.out.trans X4.out
  obtain rfl := Hge.out.trans X5.out
  obtain rfl := Hne.out.trans X6.out
  clear Hlt Heq Hgt Hle Hge Hne X1 X2 X3 X4 X5 X6
  rcases four a0 a1 with ⟨za, zb, y1, y2, y3⟩ | ⟨za, zb, y1, y2, y3⟩ | ⟨za, zb, y1, y2, y3⟩ | ⟨za, zb, y1, y2, y3⟩
  · obtain rfl := Han.out.trans y1
    obtain rfl := Ho.out.trans y2
    obtain rfl := Hxo.out.trans y3
    clear Han Ho Hxo y1 y2 y3
    have Hza := Lib.hid za
    have Hzb := Lib.hid zb
    clear za zb
    go_wp2_with fail
    refine (not_t _).mono ?_; rintro e w' ⟨rfl, rfl⟩
    go_wp2_with fail
    refine (not_0 a0 Hza.out _).mono ?_; rintro e w' ⟨rfl, rfl⟩
    go_wp2_with fail
    refine (not_f _).mono ?_; rintro e w' ⟨rfl, rfl⟩
    go_wp2_with fail
    refine (not_0 a1 Hzb.out _).mono ?_; rintro e w' ⟨rfl, rfl⟩
    go_wp2_with fail
    refine (not_f _).mono ?_; rintro e w' ⟨rfl, rfl⟩
    go_wp2_with fail
    refine (awake_any _).mono ?_; rintro e w' ⟨rfl, rfl⟩
    go_wp2_with fail
    go_ret
    exact ⟨rfl, Grown.refl _⟩
  · obtain rfl := Han.out.trans y1
    obtain rfl := Ho.out.trans y2
    obtain rfl := Hxo.out.trans y3
    clear Han Ho Hxo y1 y2 y3
    have Hza := Lib.hid za
    have Hzb := Lib.hid zb
    clear za zb
    go_wp2_with fail
    refine (not_f _).mono ?_; rintro e w' ⟨rfl, rfl⟩
    go_wp2_with fail
    refine (not_0 a0 Hza.out _).mono ?_; rintro e w' ⟨rfl, rfl⟩
    go_wp2_with fail
    refine (not_f _).mono ?_; rintro e w' ⟨rfl, rfl⟩
    go_wp2_with fail
    refine (not_1 a1 Hzb.out _).mono ?_; rintro e w' ⟨rfl, rfl⟩
    go_wp2_with fail
    refine (not_t _).mono ?_; rintro e w' ⟨rfl, rfl⟩
    go_wp2_with fail
    refine (awake_any _).mono ?_; rintro e w' ⟨rfl, rfl⟩
    go_wp2_with fail
    go_ret
    exact ⟨rfl, Grown.refl _⟩
  · obtain rfl := Han.out.trans y1
    obtain rfl := Ho.out.trans y2
    obtain rfl := Hxo.out.trans y3
    clear Han Ho Hxo y1 y2 y3
    have Hza := Lib.hid za
    have Hzb := Lib.hid zb
    clear za zb
    go_wp2_with fail
    refine (not_f _).mono ?_; rintro e w' ⟨rfl, rfl⟩
    go_wp2_with fail
    refine (not_1 a0 Hza.out _).mono ?_; rintro e w' ⟨rfl, rfl⟩
    go_wp2_with fail
    refine (not_t _).mono ?_; rintro e w' ⟨rfl, rfl⟩
    go_wp2_with fail
    refine (not_0 a1 Hzb.out _).mono ?_; rintro e w' ⟨rfl, rfl⟩
    go_wp2_with fail
    refine (not_f _).mono ?_; rintro e w' ⟨rfl, rfl⟩
    go_wp2_with fail
    refine (awake_any _).mono ?_; rintro e w' ⟨rfl, rfl⟩
    go_wp2_with fail
    go_ret
    exact ⟨rfl, Grown.refl _⟩
  · obtain rfl := Han.out.trans y1
    obtain rfl := Ho.out.trans y2
    obtain rfl := Hxo.out.trans y3
    clear Han Ho Hxo y1 y2 y3
    have Hza := Lib.hid za
    have Hzb := Lib.hid zb
    clear za zb
    go_wp2_with fail
    refine (not_f _).mono ?_; rintro e w' ⟨rfl, rfl⟩
    go_wp2_with fail
    refine (not_1 a0 Hza.out _).mono ?_; rintro e w' ⟨rfl, rfl⟩
    go_wp2_with fail
    refine (not_t _).mono ?_; rintro e w' ⟨rfl, rfl⟩
    go_wp2_with fail
    refine (not_1 a1 Hzb.out _).mono ?_; rintro e w' ⟨rfl, rfl⟩
    go_wp2_with fail
    refine (not_t _).mono ?_; rintro e w' ⟨rfl, rfl⟩
    go_wp2_with fail
    refine (awake_any _).mono ?_; rintro e w' ⟨rfl, rfl⟩
    go_wp2_with fail
    go_ret
    exact ⟨rfl, Grown.refl _⟩
set_option maxRecDepth 100000 in
set_option maxHeartbeats 2000000 in
theorem walk_eq (a0 : Int) (x1 : doV 8 a0 a0 = 0) (x2 : doV 6 a0 a0 = 1) (x3 : doV 10 a0 a0 = 0) (x4 : doV 9 a0 a0 = 1) (x5 : doV 11 a0 a0 = 1) (x6 : doV 7 a0 a0 = 0) (w : World) :
    Calls Try.prog 7 #[.int .i64 a0, .int .i64 a0] w fun e w' => e = .returned (.bool true) ∧ Grown w w' := by
  have X1 := Lib.hid x1; clear x1
  have X2 := Lib.hid x2; clear x2
  have X3 := Lib.hid x3; clear x3
  have X4 := Lib.hid x4; clear x4
  have X5 := Lib.hid x5; clear x5
  have X6 := Lib.hid x6; clear x6
  go_enter Try.func7, Try.ntmps7
  go_wp2_with fail
  refine (do_ex _ _ _ _).mono ?_; rintro e w' ⟨lt, t1, rfl, Hlt, rfl⟩
  go_wp2_with fail
  refine (do_ex _ _ _ _).mono ?_; rintro e w' ⟨eq, t2, rfl, Heq, rfl⟩
  go_wp2_with fail
  refine (do_ex _ _ _ _).mono ?_; rintro e w' ⟨gt, t3, rfl, Hgt, rfl⟩
  go_wp2_with fail
  refine (do_ex _ _ _ _).mono ?_; rintro e w' ⟨le, t4, rfl, Hle, rfl⟩
  go_wp2_with fail
  refine (do_ex _ _ _ _).mono ?_; rintro e w' ⟨ge, t5, rfl, Hge, rfl⟩
  go_wp2_with fail
  refine (do_ex _ _ _ _).mono ?_; rintro e w' ⟨ne, t6, rfl, Hne, rfl⟩
  go_wp2_with fail
  refine (do_ex _ _ _ _).mono ?_; rintro e w' ⟨an, t7, rfl, Han, rfl⟩
  go_wp2_with fail
  refine (do_ex _ _ _ _).mono ?_; rintro e w' ⟨o, t8, rfl, Ho, rfl⟩
  go_wp2_with fail
  refine (do_ex _ _ _ _).mono ?_; rintro e w' ⟨xo, t9, rfl, Hxo, rfl⟩
  obtain rfl := Hlt.out.trans X1.out
  obtain rfl := Heq.out.trans X2.out
  obtain rfl := Hgt.out.trans X3.out
  obtain rfl := Hle.out.trans X4.out
  obtain rfl := Hge.out.trans X5.out
  obtain rfl := Hne.out.trans X6.out
  clear Hlt Heq Hgt Hle Hge Hne X1 X2 X3 X4 X5 X6
  rcases two a0 with ⟨za, zb, y1, y2, y3⟩ | ⟨za, zb, y1, y2, y3⟩
  · obtain rfl := Han.out.trans y1
    obtain rfl := Ho.out.trans y2
    obtain rfl := Hxo.out.trans y3
    clear Han Ho Hxo y1 y2 y3
    have Hza := Lib.hid za
    have Hzb := Lib.hid zb
    clear za zb
    go_wp2_with fail
    refine (not_t _).mono ?_; rintro e w' ⟨rfl, rfl⟩
    go_wp2_with fail
    refine (not_0 a0 Hza.out _).mono ?_; rintro e w' ⟨rfl, rfl⟩
    go_wp2_with fail
    refine (not_f _).mono ?_; rintro e w' ⟨rfl, rfl⟩
    go_wp2_with fail
    refine (not_0 a0 Hzb.out _).mono ?_; rintro e w' ⟨rfl, rfl⟩
    go_wp2_with fail
    refine (not_f _).mono ?_; rintro e w' ⟨rfl, rfl⟩
    go_wp2_with fail
    refine (awake_any _).mono ?_; rintro e w' ⟨rfl, rfl⟩
    go_wp2_with fail
    go_ret
    exact ⟨rfl, Grown.refl _⟩
  · obtain rfl := Han.out.trans y1
    obtain rfl := Ho.out.trans y2
    obtain rfl := Hxo.out.trans y3
    clear Han Ho Hxo y1 y2 y3
    have Hza := Lib.hid za
    have Hzb := Lib.hid zb
    clear za zb
    go_wp2_with fail
    refine (not_f _).mono ?_; rintro e w' ⟨rfl, rfl⟩
    go_wp2_with fail
    refine (not_1 a0 Hza.out _).mono ?_; rintro e w' ⟨rfl, rfl⟩
    go_wp2_with fail
    refine (not_t _).mono ?_; rintro e w' ⟨rfl, rfl⟩
    go_wp2_with fail
    refine (not_1 a0 Hzb.out _).mono ?_; rintro e w' ⟨rfl, rfl⟩
    go_wp2_with fail
    refine (not_t _).mono ?_; rintro e w' ⟨rfl, rfl⟩
    go_wp2_with fail
    refine (awake_any _).mono ?_; rintro e w' ⟨rfl, rfl⟩
    go_wp2_with fail
    go_ret
    exact ⟨rfl, Grown.refl _⟩
set_option maxRecDepth 100000 in
set_option maxHeartbeats 2000000 in
theorem walk_gt (a0 a1 : Int) (k : decide (a0 < a1) = false) (kb : (a0 == a1) = false) (x1 : doV 8 a0 a1 = 0) (x2 : doV 6 a0 a1 = 0) (x3 : doV 10 a0 a1 = 1) (x4 : doV 9 a0 a1 = 0) (x5 : doV 11 a0 a1 = 1) (x6 : doV 7 a0 a1 = 1) (w : World) :
    Calls Try.prog 7 #[.int .i64 a0, .int .i64 a1] w fun e w' => e = .returned (.bool true) ∧ Grown w w' := by
  have X1 := Lib.hid x1; clear x1
  have X2 := Lib.hid x2; clear x2
  have X3 := Lib.hid x3; clear x3
  have X4 := Lib.hid x4; clear x4
  have X5 := Lib.hid x5; clear x5
  have X6 := Lib.hid x6; clear x6
  go_enter Try.func7, Try.ntmps7
  go_wp2_with fail
  refine (do_ex _ _ _ _).mono ?_; rintro e w' ⟨lt, t1, rfl, Hlt, rfl⟩
  go_wp2_with fail
  refine (do_ex _ _ _ _).mono ?_; rintro e w' ⟨eq, t2, rfl, Heq, rfl⟩
  go_wp2_with fail
  refine (do_ex _ _ _ _).mono ?_; rintro e w' ⟨gt, t3, rfl, Hgt, rfl⟩
  go_wp2_with fail
  refine (do_ex _ _ _ _).mono ?_; rintro e w' ⟨le, t4, rfl, Hle, rfl⟩
  go_wp2_with fail
  refine (do_ex _ _ _ _).mono ?_; rintro e w' ⟨ge, t5, rfl, Hge, rfl⟩
  go_wp2_with fail
  refine (do_ex _ _ _ _).mono ?_; rintro e w' ⟨ne, t6, rfl, Hne, rfl⟩
  go_wp2_with fail
  refine (do_ex _ _ _ _).mono ?_; rintro e w' ⟨an, t7, rfl, Han, rfl⟩
  go_wp2_with fail
  refine (do_ex _ _ _ _).mono ?_; rintro e w' ⟨o, t8, rfl, Ho, rfl⟩
  go_wp2_with fail
  refine (do_ex _ _ _ _).mono ?_; rintro e w' ⟨xo, t9, rfl, Hxo, rfl⟩
  obtain rfl := Hlt.out.trans X1.out
  obtain rfl := Heq.out.trans X2.out
  obtain rfl := Hgt.out.trans X3.out
  obtain rfl := Hle.out.trans X4.out
  obtain rfl := Hge.out.trans X5.out
  obtain rfl := Hne.out.trans X6.out
  clear Hlt Heq Hgt Hle Hge Hne X1 X2 X3 X4 X5 X6
  rcases four a0 a1 with ⟨za, zb, y1, y2, y3⟩ | ⟨za, zb, y1, y2, y3⟩ | ⟨za, zb, y1, y2, y3⟩ | ⟨za, zb, y1, y2, y3⟩
  · obtain rfl := Han.out.trans y1
    obtain rfl := Ho.out.trans y2
    obtain rfl := Hxo.out.trans y3
    clear Han Ho Hxo y1 y2 y3
    have Hza := Lib.hid za
    have Hzb := Lib.hid zb
    clear za zb
    go_wp2_with fail
    refine (not_t _).mono ?_; rintro e w' ⟨rfl, rfl⟩
    go_wp2_with fail
    refine (not_0 a0 Hza.out _).mono ?_; rintro e w' ⟨rfl, rfl⟩
    go_wp2_with fail
    refine (not_f _).mono ?_; rintro e w' ⟨rfl, rfl⟩
    go_wp2_with fail
    refine (not_0 a1 Hzb.out _).mono ?_; rintro e w' ⟨rfl, rfl⟩
    go_wp2_with fail
    refine (not_f _).mono ?_; rintro e w' ⟨rfl, rfl⟩
    go_wp2_with fail
    refine (awake_any _).mono ?_; rintro e w' ⟨rfl, rfl⟩
    go_wp2_with fail
    go_ret
    exact ⟨rfl, Grown.refl _⟩
  · obtain rfl := Han.out.trans y1
    obtain rfl := Ho.out.trans y2
    obtain rfl := Hxo.out.trans y3
    clear Han Ho Hxo y1 y2 y3
    have Hza := Lib.hid za
    have Hzb := Lib.hid zb
    clear za zb
    go_wp2_with fail
    refine (not_f _).mono ?_; rintro e w' ⟨rfl, rfl⟩
    go_wp2_with fail
    refine (not_0 a0 Hza.out _).mono ?_; rintro e w' ⟨rfl, rfl⟩
    go_wp2_with fail
    refine (not_f _).mono ?_; rintro e w' ⟨rfl, rfl⟩
    go_wp2_with fail
    refine (not_1 a1 Hzb.out _).mono ?_; rintro e w' ⟨rfl, rfl⟩
    go_wp2_with fail
    refine (not_t _).mono ?_; rintro e w' ⟨rfl, rfl⟩
    go_wp2_with fail
    refine (awake_any _).mono ?_; rintro e w' ⟨rfl, rfl⟩
    go_wp2_with fail
    go_ret
    exact ⟨rfl, Grown.refl _⟩
  · obtain rfl := Han.out.trans y1
    obtain rfl := Ho.out.trans y2
    obtain rfl := Hxo.out.trans y3
    clear Han Ho Hxo y1 y2 y3
    have Hza := Lib.hid za
    have Hzb := Lib.hid zb
    clear za zb
    go_wp2_with fail
    refine (not_f _).mono ?_; rintro e w' ⟨rfl, rfl⟩
    go_wp2_with fail
    refine (not_1 a0 Hza.out _).mono ?_; rintro e w' ⟨rfl, rfl⟩
    go_wp2_with fail
    refine (not_t _).mono ?_; rintro e w' ⟨rfl, rfl⟩
    go_wp2_with fail
    refine (not_0 a1 Hzb.out _).mono ?_; rintro e w' ⟨rfl, rfl⟩
    go_wp2_with fail
    refine (not_f _).mono ?_; rintro e w' ⟨rfl, rfl⟩
    go_wp2_with fail
    refine (awake_any _).mono ?_; rintro e w' ⟨rfl, rfl⟩
    go_wp2_with fail
    go_ret
    exact ⟨rfl, Grown.refl _⟩
  · obtain rfl := Han.out.trans y1
    obtain rfl := Ho.out.trans y2
    obtain rfl := Hxo.out.trans y3
    clear Han Ho Hxo y1 y2 y3
    have Hza := Lib.hid za
    have Hzb := Lib.hid zb
    clear za zb
    go_wp2_with fail
    refine (not_f _).mono ?_; rintro e w' ⟨rfl, rfl⟩
    go_wp2_with fail
    refine (not_1 a0 Hza.out _).mono ?_; rintro e w' ⟨rfl, rfl⟩
    go_wp2_with fail
    refine (not_t _).mono ?_; rintro e w' ⟨rfl, rfl⟩
    go_wp2_with fail
    refine (not_1 a1 Hzb.out _).mono ?_; rintro e w' ⟨rfl, rfl⟩
    go_wp2_with fail
    refine (not_t _).mono ?_; rintro e w' ⟨rfl, rfl⟩
    go_wp2_with fail
    refine (awake_any _).mono ?_; rintro e w' ⟨rfl, rfl⟩
    go_wp2_with fail
    go_ret
    exact ⟨rfl, Grown.refl _⟩
theorem walk (a0 a1 : Int) (w0 : (Lit.int .i64 a0).wf = true) (w1 : (Lit.int .i64 a1).wf = true) (w : World) :
    Calls Try.prog 7 #[.int .i64 a0, .int .i64 a1] w fun e w' => e = .returned (.bool true) ∧ Grown w w' := by
  rcases three a0 a1 with ⟨k, kb, x1, x2, x3, x4, x5, x6⟩ | ⟨k, kb, x1, x2, x3, x4, x5, x6⟩ | ⟨k, kb, x1, x2, x3, x4, x5, x6⟩
  · exact walk_lt a0 a1 (by simpa using k) kb x1 x2 x3 x4 x5 x6 w
  · obtain rfl : a0 = a1 := by simpa using kb
    exact walk_eq a0 x1 x2 x3 x4 x5 x6 w
  · exact walk_gt a0 a1 (by simpa using k) kb x1 x2 x3 x4 x5 x6 w

/-! ### THE ROW's STEP: WRITTEN OUT: LEAVE IT -/
set_option maxRecDepth 100000 in
theorem lifted (os : Os) (started : os.Started) (H : Type) (enc : TypeId × Value → H) :
    ReturnsInHanded {} Try.checked os 7 .any (Rows.wordOrderSpec.pre6 enc Try.prog Try.f7 Rows.wordOrderRow.domain false) (Rows.wordOrderSpec.post enc Try.prog Try.f7 false true false false) := by
  refine returnsInHanded_of_change (C := Try.checked) own started (by kernel_rfl) Try.func7
    (ChangeSpec.witness6 (enc := enc) (C := Try.checked) false ⟨#[], #[.int .i64 0, .int .i64 0], []⟩ 8 (by kernel_rfl) (by kernel_rfl) (by kernel_rfl) (by kernel_rfl)) ?_
  intro W base args ds gs before hval0 hW hcnd _
  have hval : ∀ (j : Nat) t v, Try.f7.params[j]? = some t → args[j]? = some v → Value.okWide Try.prog W .any base t v := hval0
  have hW' := hW
  obtain ⟨p, q, hA0, hV, rfl, hfz, hnd⟩ := hW
  have hA : DataW.TrodAll enc Try.prog W 0 (fun _ => true) true Try.f7.params.toList args.toList ds p := hA0
  rw [Try.params7] at hA hval
  obtain ⟨v0, vs0, d0, ds0, p0, q0, hargs, rfl, rfl, h0, r0⟩ := trodAll_cons hA
  obtain ⟨v1, vs1, d1, ds1, p1, q1, rfl, rfl, rfl, h1, r1⟩ := trodAll_cons r0
  obtain ⟨rfl, rfl, rfl⟩ := trodAll_nil r1
  obtain rfl : args = #[v0, v1] := by cases args; simp_all
  obtain ⟨rfl, rfl⟩ := trodVars_none hV
  obtain ⟨a0, rfl, rfl, rfl, w0⟩ := open_int Try.underlying3 (hval 0 3 v0 rfl rfl) h0
  obtain ⟨a1, rfl, rfl, rfl, w1⟩ := open_int Try.underlying3 (hval 1 3 v1 rfl rfl) h1
  clear hA0 hval0
  simp only [List.append_nil] at hW'
  refine (walk a0 a1 w0 w1 W).mono fun e W' ⟨he, hg⟩ => ?_
  subst he
  exact ⟨_, rfl, post_of_same (pa := []) (pv := []) hW' (fun _ _ _ => (trodAll_cons_mk (shut_bool Try.underlying4 _) trodAll_mk0)) (fun sp _ => (trodAll_cons_mk (shut_int Try.underlying3 w0) (trodAll_cons_mk (shut_int Try.underlying3 w1) trodAll_mk0))) (fun _ _ => rfl) rfl
    (hg.frame _) hg.2.1 (ok_one (by kernel_rfl) rfl (okWide_bool_mk Try.underlying4 _))⟩

theorem over : Rows.wordOrderRow.holds Try.pinned (OpenSpec.ofChange Rows.wordOrderSpec) :=
  OpenClaim.holds_of_wide 7 Try.f7 rfl rfl rfl rfl rfl rfl rfl ⟨rfl, rfl, rfl, rfl, rfl⟩ rfl rfl rfl rfl rfl (by kernel_rfl) Try.func7 (by kernel_rfl)
    (of_decide_eq_true (by kernel_rfl)) (by unfold Func.isWrapper; first | (rw [if_pos (by decide +kernel)]; kernel_rfl) | (rw [if_neg (by decide +kernel)]; exact ⟨rfl, rfl⟩))
    (fun os started H enc _ => lifted os started H enc)

/-- ████ THE STATEMENT ████ -/
theorem proved : Rows.WordOrderSaid :=
  over
#print axioms proved
end Go.Proofs.Ytoohblmajmoofaa.wordOrder
