/-
  The word layer: what each function of packages word and governorref2 answers, for whatever numbers: a contract a function.
-/
import Derived.Test.YtoohblmajmoofaaRows
import Derived.WalkKit
import Derived.ProofKit
import Derived.OpenShut
import Derived.WalkLawsBesides
import Derived.WalkSpells
namespace Go.Proofs.Ytoohblmajmoofaa
open Go.ChangeShapes Go.WideShapes Go.ChangeAt Go.RowKit

theorem ret_int {k : IntKind} {a b : Int} (h : a = b) : Ending.returned (.int k a) = .returned (.int k b) := by rw [h]
theorem ret_bool {a b : Bool} (h : a = b) : Ending.returned (.bool a) = .returned (.bool b) := by rw [h]
theorem ret_ib {k : IntKind} {a b : Int} {p q : Bool} (h : a = b) (g : p = q) : Ending.returned (.tuple #[.int k a, .bool p]) = .returned (.tuple #[.int k b, .bool q]) := by rw [h, g]

/-! ### Plain numbers -/
def fit (n : Int) : Int := (n + 32768) % 65536 - 32768
def b2i (b : Bool) : Int := if b then 1 else 0

theorem wrap16 (n : Int) : IntKind.i16.wrap n = fit n := by simp [IntKind.wrap, IntKind.signed, IntKind.bits, fit]; split <;> omega
theorem wrapu16 (n : Int) : IntKind.u16.wrap n = n % 65536 := by simp [IntKind.wrap, IntKind.signed, IntKind.bits]
theorem wrapu64 (n : Int) : IntKind.u64.wrap n = n % 18446744073709551616 := by simp [IntKind.wrap, IntKind.signed, IntKind.bits]
theorem fit_bd (n : Int) : -32768 ≤ fit n ∧ fit n ≤ 32767 := by unfold fit; omega
theorem wrap64_fit (n : Int) : wrap64 (fit n) = fit n := IntWalk.wrap64_in _ (by have := fit_bd n; omega)
theorem fit_wrap64 (n : Int) : fit (wrap64 n) = fit n := by unfold fit wrap64; omega
theorem fit_fit (n : Int) : fit (fit n) = fit n := by unfold fit; omega

theorem fit_any (n : Int) (w : World) :
    Calls Try.prog 11 #[.int .i64 n] w fun e w' => e = .returned (.int .i64 (fit n)) ∧ w = w' := by
  go_enter Try.func11, Try.ntmps11
  go_wp2
  go_ret
  exact ⟨ret_int (by simp [wrap16, wrap64_fit]), rfl⟩
theorem rfit_any (n : Int) (w : World) :
    Calls Try.prog 12 #[.int .i64 n] w fun e w' => e = .returned (.int .i64 (fit n)) ∧ w = w' := by
  go_enter Try.func12, Try.ntmps12
  go_wp2
  go_ret
  exact ⟨ret_int (by simp [wrap16, wrapu16, wrapu64, wrap64_fit]; unfold fit; omega), rfl⟩
theorem neg_any (n : Int) (w : World) :
    Calls Try.prog 13 #[.int .i64 n] w fun e w' => e = .returned (.int .i64 (fit (-n))) ∧ w = w' := by
  go_enter Try.func13, Try.ntmps13
  go_wp2_with (go_at_call 11; refine (fit_any _ _).mono ?_; rintro e w' ⟨rfl, rfl⟩)
  go_ret
  exact ⟨ret_int (by simp [fit_wrap64]), rfl⟩
theorem rneg_any (n : Int) (w : World) :
    Calls Try.prog 14 #[.int .i64 n] w fun e w' => e = .returned (.int .i64 (fit (-n))) ∧ w = w' := by
  go_enter Try.func14, Try.ntmps14
  go_wp2_with (go_at_call 12; refine (rfit_any _ _).mono ?_; rintro e w' ⟨rfl, rfl⟩)
  go_ret
  exact ⟨ret_int (by simp [fit_wrap64]), rfl⟩
theorem truth_any (b : Bool) (w : World) :
    Calls Try.prog 19 #[.bool b] w fun e w' => e = .returned (.int .i64 (b2i b)) ∧ w = w' := by
  cases b <;>
  · go_enter Try.func19, Try.ntmps19
    go_wp2
    go_ret
    exact ⟨ret_int (by simp [b2i]), rfl⟩
theorem one_any (b : Bool) (w : World) :
    Calls Try.prog 21 #[.bool b] w fun e w' => e = .returned (.int .i64 (b2i b)) ∧ w = w' := by
  cases b <;>
  · go_enter Try.func21, Try.ntmps21
    go_wp2
    go_ret
    exact ⟨ret_int (by simp [b2i]), rfl⟩
theorem not_any (n : Int) (w : World) :
    Calls Try.prog 15 #[.int .i64 n] w fun e w' => e = .returned (.int .i64 (b2i (n == 0))) ∧ w = w' := by
  go_enter Try.func15, Try.ntmps15
  go_wp2_with (go_at_call 19; refine (truth_any _ _).mono ?_; rintro e w' ⟨rfl, rfl⟩)
  go_ret
  exact ⟨rfl, rfl⟩
theorem rnot_any (n : Int) (w : World) :
    Calls Try.prog 16 #[.int .i64 n] w fun e w' => e = .returned (.int .i64 (b2i (n == 0))) ∧ w = w' := by
  go_enter Try.func16, Try.ntmps16
  go_wp2_with (go_at_call 21; refine (one_any _ _).mono ?_; rintro e w' ⟨rfl, rfl⟩)
  go_ret
  exact ⟨rfl, rfl⟩
def hB (op a b : Int) : Bool := if op = 6 then a == b else if op = 7 then a != b else if op = 8 then decide (a < b) else if op = 9 then decide (a ≤ b) else if op = 10 then decide (b < a) else if op = 11 then decide (b ≤ a) else false

theorem holds_any (op a b : Int) (h : 6 ≤ op ∧ op ≤ 11) (w : World) :
    Calls Try.prog 20 #[.int .i64 op, .int .i64 a, .int .i64 b] w fun e w' => e = .returned (.bool (hB op a b)) ∧ w = w' := by
  have h6 : op = 6 ∨ op = 7 ∨ op = 8 ∨ op = 9 ∨ op = 10 ∨ op = 11 := by omega
  clear h
  rcases h6 with rfl | rfl | rfl | rfl | rfl | rfl
  all_goals
    go_enter Try.func20, Try.ntmps20
    go_wp2
    go_ret
    exact ⟨ret_bool (by simp [hB]), rfl⟩

/-! ### Division -/
def dV (op a b : Int) : Int := if b = 0 then 0 else if op = 4 then fit (a.tdiv b) else fit (a.tmod b)
def dB (b : Int) : Bool := !(b == 0)

theorem divide_any (op a b : Int) (h : 4 ≤ op ∧ op ≤ 5) (w : World) :
    Calls Try.prog 18 #[.int .i64 op, .int .i64 a, .int .i64 b] w fun e w' => e = .returned (.tuple #[.int .i64 (dV op a b), .bool (dB b)]) ∧ w = w' := by
  have h4 : op = 4 ∨ op = 5 := by omega
  clear h
  by_cases hb : b = 0
  · subst hb
    rcases h4 with rfl | rfl
    all_goals
      go_enter Try.func18, Try.ntmps18
      go_wp2
      go_ret2
      exact ⟨ret_ib (by simp [dV]) (by simp [dB]), rfl⟩
  · rcases h4 with rfl | rfl
    all_goals
      go_enter Try.func18, Try.ntmps18
      go_wp2_with (go_at_call 11; refine (fit_any _ _).mono ?_; rintro e w' ⟨rfl, rfl⟩)
      go_ret2
      exact ⟨ret_ib (by simp [dV, hb, fit_wrap64]) (by simp [dB, hb]), rfl⟩

/-! ### Do -/
def tB (op a b : Int) : Bool := if op = 12 then a != 0 && b != 0 else if op = 13 then a != 0 || b != 0 else (a != 0) != (b != 0)
def doV (op a b : Int) : Int :=
  if op = 1 then fit (a + b) else if op = 2 then fit (a - b) else if op = 3 then fit (a * b) else
  if op = 4 ∨ op = 5 then dV op a b else if 6 ≤ op ∧ op ≤ 11 then b2i (hB op a b) else if 12 ≤ op ∧ op ≤ 14 then b2i (tB op a b) else 0
def doB (op b : Int) : Bool := if op = 4 ∨ op = 5 then dB b else decide (1 ≤ op ∧ op ≤ 14)

theorem do_add (op a b : Int) (h : op = 1 ∨ op = 2) (w : World) :
    Calls Try.prog 9 #[.int .i64 op, .int .i64 a, .int .i64 b] w fun e w' => e = .returned (.tuple #[.int .i64 (doV op a b), .bool (doB op b)]) ∧ w = w' := by
  rcases h with rfl | rfl
  all_goals
    go_enter Try.func9, Try.ntmps9
    go_wp2_with (go_at_call 11; refine (fit_any _ _).mono ?_; rintro e w' ⟨rfl, rfl⟩)
    go_ret2
    exact ⟨ret_ib (by simp [doV, fit_wrap64]; try (unfold fit wrap64; omega)) (by simp [doB]), rfl⟩
theorem do_mul (a b : Int) (w : World) :
    Calls Try.prog 9 #[.int .i64 3, .int .i64 a, .int .i64 b] w fun e w' => e = .returned (.tuple #[.int .i64 (doV 3 a b), .bool (doB 3 b)]) ∧ w = w' := by
  go_enter Try.func9, Try.ntmps9
  go_wp2_with (go_at_call 11; refine (fit_any _ _).mono ?_; rintro e w' ⟨rfl, rfl⟩)
  go_ret2
  exact ⟨ret_ib (by simp [doV, fit_wrap64]) (by simp [doB]), rfl⟩
theorem do_div (op a b : Int) (h : op = 4 ∨ op = 5) (w : World) :
    Calls Try.prog 9 #[.int .i64 op, .int .i64 a, .int .i64 b] w fun e w' => e = .returned (.tuple #[.int .i64 (doV op a b), .bool (doB op b)]) ∧ w = w' := by
  rcases h with rfl | rfl
  all_goals
    go_enter Try.func9, Try.ntmps9
    go_wp2_with (go_at_call 18; refine (divide_any _ _ _ (by omega) _).mono ?_; rintro e w' ⟨rfl, rfl⟩)
    go_ret2
    exact ⟨ret_ib (by simp [doV]) (by simp [doB]), rfl⟩
theorem do_cmp (op a b : Int) (h : 6 ≤ op ∧ op ≤ 11) (w : World) :
    Calls Try.prog 9 #[.int .i64 op, .int .i64 a, .int .i64 b] w fun e w' => e = .returned (.tuple #[.int .i64 (doV op a b), .bool (doB op b)]) ∧ w = w' := by
  have h6 : op = 6 ∨ op = 7 ∨ op = 8 ∨ op = 9 ∨ op = 10 ∨ op = 11 := by omega
  clear h
  rcases h6 with rfl | rfl | rfl | rfl | rfl | rfl
  all_goals
    go_enter Try.func9, Try.ntmps9
    go_wp2_with (first | (go_at_call 20; refine (holds_any _ _ _ (by omega) _).mono ?_; rintro e w' ⟨rfl, rfl⟩) | (go_at_call 19; refine (truth_any _ _).mono ?_; rintro e w' ⟨rfl, rfl⟩))
    go_ret2
    exact ⟨ret_ib (by simp [doV]) (by simp [doB]), rfl⟩
theorem do_and (a b : Int) (w : World) :
    Calls Try.prog 9 #[.int .i64 12, .int .i64 a, .int .i64 b] w fun e w' => e = .returned (.tuple #[.int .i64 (doV 12 a b), .bool (doB 12 b)]) ∧ w = w' := by
  by_cases ha : (a != 0) = true
  · rw [show doV 12 a b = b2i (b != 0) from by simp [doV, tB, ha]]
    go_enter Try.func9, Try.ntmps9
    go_wp2_with (go_at_call 19; refine (truth_any _ _).mono ?_; rintro e w' ⟨rfl, rfl⟩)
    go_ret2
    exact ⟨ret_ib rfl (by simp [doB]), rfl⟩
  · rw [show doV 12 a b = b2i false from by simp [doV, tB, ha]]
    go_enter Try.func9, Try.ntmps9
    go_wp2_with (go_at_call 19; refine (truth_any _ _).mono ?_; rintro e w' ⟨rfl, rfl⟩)
    go_ret2
    exact ⟨ret_ib rfl (by simp [doB]), rfl⟩
theorem do_or (a b : Int) (w : World) :
    Calls Try.prog 9 #[.int .i64 13, .int .i64 a, .int .i64 b] w fun e w' => e = .returned (.tuple #[.int .i64 (doV 13 a b), .bool (doB 13 b)]) ∧ w = w' := by
  by_cases ha : (a != 0) = true
  · rw [show doV 13 a b = b2i true from by simp [doV, tB, ha]]
    go_enter Try.func9, Try.ntmps9
    go_wp2_with (go_at_call 19; refine (truth_any _ _).mono ?_; rintro e w' ⟨rfl, rfl⟩)
    go_ret2
    exact ⟨ret_ib rfl (by simp [doB]), rfl⟩
  · rw [show doV 13 a b = b2i (b != 0) from by simp [doV, tB, ha]]
    go_enter Try.func9, Try.ntmps9
    go_wp2_with (go_at_call 19; refine (truth_any _ _).mono ?_; rintro e w' ⟨rfl, rfl⟩)
    go_ret2
    exact ⟨ret_ib rfl (by simp [doB]), rfl⟩
theorem do_xor (a b : Int) (w : World) :
    Calls Try.prog 9 #[.int .i64 14, .int .i64 a, .int .i64 b] w fun e w' => e = .returned (.tuple #[.int .i64 (doV 14 a b), .bool (doB 14 b)]) ∧ w = w' := by
  rw [show doV 14 a b = b2i ((a != 0) != (b != 0)) from by simp [doV, tB]]
  go_enter Try.func9, Try.ntmps9
  go_wp2_with (go_at_call 19; refine (truth_any _ _).mono ?_; rintro e w' ⟨rfl, rfl⟩)
  go_ret2
  exact ⟨ret_ib rfl (by simp [doB]), rfl⟩
theorem do_none (op a b : Int) (h : op < 1 ∨ 14 < op) (w : World) :
    Calls Try.prog 9 #[.int .i64 op, .int .i64 a, .int .i64 b] w fun e w' => e = .returned (.tuple #[.int .i64 (doV op a b), .bool (doB op b)]) ∧ w = w' := by
  rw [show doV op a b = 0 from by unfold doV; repeat (rw [if_neg (by omega)])]
  rw [show doB op b = false from by unfold doB; rw [if_neg (by omega)]; simp; omega]
  rcases h with h | h
  all_goals
    go_enter Try.func9, Try.ntmps9
    go_wp2
    go_ret2
    exact ⟨rfl, rfl⟩
theorem do_any (op a b : Int) (w : World) :
    Calls Try.prog 9 #[.int .i64 op, .int .i64 a, .int .i64 b] w fun e w' => e = .returned (.tuple #[.int .i64 (doV op a b), .bool (doB op b)]) ∧ w = w' := by
  by_cases h0 : op < 1 ∨ 14 < op
  · exact do_none op a b h0 w
  by_cases h1 : op = 1 ∨ op = 2
  · exact do_add op a b h1 w
  by_cases h2 : op = 4 ∨ op = 5
  · exact do_div op a b h2 w
  by_cases h3 : 6 ≤ op ∧ op ≤ 11
  · exact do_cmp op a b h3 w
  have h4 : op = 3 ∨ op = 12 ∨ op = 13 ∨ op = 14 := by omega
  rcases h4 with rfl | rfl | rfl | rfl
  · exact do_mul a b w
  · exact do_and a b w
  · exact do_or a b w
  · exact do_xor a b w
end Go.Proofs.Ytoohblmajmoofaa
