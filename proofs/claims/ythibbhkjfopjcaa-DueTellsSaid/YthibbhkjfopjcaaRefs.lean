/-
  The document's own small functions: due or not, how many ticks; and the slice that is written over.
-/
import Derived.Test.YthibbhkjfopjcaaInsert
namespace Go.Proofs.Ythibbhkjfopjcaa
open Go.ChangeShapes Go.WideShapes Go.ChangeAt Go.RowKit

theorem rdue_any (e b a : Int) (hma : a ≤ 9223372036854775807) (w : World) : Calls Try.prog 10 #[.int .i64 e, .int .i64 b, .int .i64 a] w fun en w' => en = .returned (.bool (dueB e b a)) ∧ ∃ n, w' = w.drewN n := by
  by_cases h1 : 1 ≤ e
  · by_cases h2 : 0 ≤ b
    · by_cases h3 : b ≤ a
      · have h4 : ¬ e = 0 := by omega
        have h5 : 0 ≤ a := by omega
        have d1 := Int.ediv_nonneg h5 (show 0 ≤ e by omega)
        have d2 := Int.ediv_nonneg h2 (show 0 ≤ e by omega)
        have d3 := Int.ediv_le_self e h5
        have d4 := Int.ediv_le_self e h2
        have f1 : IntKind.i64.wrap (a.tdiv e) = a / e := by rw [Int.tdiv_eq_ediv_of_nonneg h5]; exact IntWalk.i64_in _ (by omega)
        have f2 : IntKind.i64.wrap (b.tdiv e) = b / e := by rw [Int.tdiv_eq_ediv_of_nonneg h2]; exact IntWalk.i64_in _ (by omega)
        go_enter Try.func10, Try.ntmps10
        go_wp2_with fail
        go_quiet (fail)
        go_wp2_with fail
        go_ret
        exact ⟨ret_bool (due_eq (by omega) (by omega) (by omega)), _, rfl⟩
      · have t : decide (b ≤ a) = false := decide_eq_false h3
        have hv : dueB e b a = false := by simp [dueB]; omega
        go_enter Try.func10, Try.ntmps10
        go_wp2_with fail
        go_quiet (fail)
        go_wp2_with fail
        go_ret
        exact ⟨ret_bool hv.symm, _, rfl⟩
    · have t : decide (0 ≤ b) = false := decide_eq_false h2
      have hv : dueB e b a = false := by simp [dueB]; omega
      go_enter Try.func10, Try.ntmps10
      go_wp2_with fail
      go_quiet (fail)
      go_wp2_with fail
      go_ret
      exact ⟨ret_bool hv.symm, _, rfl⟩
  · have t : decide (1 ≤ e) = false := decide_eq_false h1
    have hv : dueB e b a = false := by simp [dueB]; omega
    go_enter Try.func10, Try.ntmps10
    go_wp2_with fail
    go_quiet (fail)
    go_wp2_with fail
    go_ret
    exact ⟨ret_bool hv.symm, _, rfl⟩

def clip (t : Int) : Int := min (max t 0) 1000
theorem clip_any (t : Int) (w : World) : Calls Try.prog 11 #[.int .i64 t] w fun e w' => e = .returned (.int .i64 (clip t)) ∧ w = w' := by
  go_enter Try.func11, Try.ntmps11
  go_wp2
  go_ret
  exact ⟨rfl, rfl⟩
theorem rclip_any (t : Int) (w : World) : Calls Try.prog 12 #[.int .i64 t] w fun e w' => e = .returned (.int .i64 (clip t)) ∧ w = w' := by
  go_enter Try.func12, Try.ntmps12
  go_wp2
  go_ret
  exact ⟨rfl, rfl⟩
end Go.Proofs.Ythibbhkjfopjcaa
