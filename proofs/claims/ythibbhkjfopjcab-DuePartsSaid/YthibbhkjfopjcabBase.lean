/-
  The schedule's small functions: what each answers, for whatever numbers: a contract a function.
-/
import Derived.Test.YthibbhkjfopjcabRows
import Derived.Test.YthibbhkjfopjcabKit
import Derived.OpenShut
import Derived.WalkLawsBesides
import Derived.WalkSpells
import Derived.Handy
import Derived.Deep.QuietTactic
import Derived.BigQuiet
namespace Go.Proofs.Ythibbhkjfopjcab
open Go.ChangeShapes Go.WideShapes Go.ChangeAt Go.RowKit

theorem ret_bool {a b : Bool} (h : a = b) : Ending.returned (.bool a) = .returned (.bool b) := by rw [h]
theorem ret_int {k : IntKind} {a b : Int} (h : a = b) : Ending.returned (.int k a) = .returned (.int k b) := by rw [h]

def low (x n : Int) : Int := (x % 18446744073709551616) % n
theorem low_bd (x n : Int) (h : 1 ≤ n) : 0 ≤ low x n ∧ low x n < n := ⟨Int.emod_nonneg _ (by omega), Int.emod_lt_of_pos _ (by omega)⟩
theorem wrapu64 (n : Int) : IntKind.u64.wrap n = n % 18446744073709551616 := by simp [IntKind.wrap, IntKind.signed, IntKind.bits]
theorem ret_low {x n : Int} (h0 : 0 ≤ IntKind.u64.wrap x) (h1 : 1 ≤ n) (h2 : n ≤ 1000000) : Ending.returned (.int .i64 (wrap64 ((IntKind.u64.wrap x).tmod n))) = .returned (.int .i64 (low x n)) := by
  rw [Int.tmod_eq_emod_of_nonneg h0, wrapu64]
  have := low_bd x n h1
  unfold low at *
  rw [IntWalk.wrap64_in _ (by omega)]
theorem low_any (x n : Int) (h1 : 1 ≤ n) (h2 : n ≤ 1000000) (w : World) : Calls Try.prog 6 #[.int .i64 x, .int .i64 n] w fun e w' => e = .returned (.int .i64 (low x n)) ∧ w = w' := by
  have e1 : IntKind.u64.wrap n = n := by rw [wrapu64]; omega
  have e0 : ¬ n = 0 := by omega
  go_enter Try.func6, Try.ntmps6
  go_wp2
  go_ret
  exact ⟨ret_low (by rw [wrapu64]; omega) h1 h2, rfl⟩

/-- a multiple of e lies above b, not above a -/
def dueB (e b a : Int) : Bool := decide (1 ≤ e ∧ 0 ≤ b ∧ b ≤ a ∧ b / e < a / e)
theorem due_eq {e b a : Int} (h1 : 1 ≤ e) (h2 : 0 ≤ b) (h3 : b ≤ a) : decide (b / e < a / e) = dueB e b a := by simp [dueB, h1, h2, h3]
theorem due_any (e b a : Int) (hma : a ≤ 9223372036854775807) (w : World) : Calls Try.prog 8 #[.int .i64 e, .int .i64 b, .int .i64 a] w fun en w' => en = .returned (.bool (dueB e b a)) ∧ ∃ n, w' = w.drewN n := by
  by_cases h1 : e < 1
  · go_enter Try.func8, Try.ntmps8
    go_wp2
    go_ret
    exact ⟨ret_bool (by simp [dueB]; omega), 0, rfl⟩
  · by_cases h2 : b < 0
    · go_enter Try.func8, Try.ntmps8
      go_wp2
      go_ret
      exact ⟨ret_bool (by simp [dueB]; omega), 0, rfl⟩
    · by_cases h3 : a < b
      · go_enter Try.func8, Try.ntmps8
        go_wp2
        go_ret
        exact ⟨ret_bool (by simp [dueB]; omega), 0, rfl⟩
      · have h4 : ¬ e = 0 := by omega
        have h5 : 0 ≤ a := by omega
        have h6 : 1 ≤ e := by omega
        go_enter Try.func8, Try.ntmps8
        go_wp2_with fail
        go_quiet (fail)
        go_wp2_with fail
        go_ret
        exact ⟨ret_bool (due_eq (by omega) (by omega) (by omega)), _, rfl⟩

def cmpI (x y : Int) : Int := if x < y then -1 else if y < x then 1 else 0
theorem cmp_any (x y : Int) (w : World) : Calls Try.prog 14 #[.int .i64 x, .int .i64 y] w fun en w' => en = .returned (.int .i64 (cmpI x y)) ∧ ∃ n, w' = w.drewN n := by
  rcases Int.lt_trichotomy x y with h | h | h
  · go_enter Try.func14, Try.ntmps14
    go_wp2
    go_ret
    exact ⟨ret_int (by simp [cmpI, h]), 0, rfl⟩
  · subst h
    go_enter Try.func14, Try.ntmps14
    go_wp2
    go_ret
    exact ⟨ret_int (by simp [cmpI]), 0, rfl⟩
  · have h' : ¬ x < y := by omega
    go_enter Try.func14, Try.ntmps14
    go_wp2
    go_ret
    exact ⟨ret_int (by simp [cmpI, h, show ¬ x < y from by omega]), 0, rfl⟩
end Go.Proofs.Ythibbhkjfopjcab
