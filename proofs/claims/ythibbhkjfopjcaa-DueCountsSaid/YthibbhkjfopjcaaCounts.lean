/-
  DueCounts: the walk: a task is due as often as there are multiples.
-/
import Derived.Test.YthibbhkjfopjcaaAwake
import Derived.Deep.RegionHeld3
import Derived.Deep.DrawnRows
import Derived.RegionTactic
namespace Go.Proofs.Ythibbhkjfopjcaa
open Go.ChangeShapes Go.WideShapes Go.ChangeAt Go.RowKit
attribute [local go_sem ↓] Go.wp_at_zero Go.wp_at_succ

theorem low_is {x n y : Int} (h : low x n = y) (h1 : 1 ≤ n) (h2 : n ≤ 1000000) (w : World) : Calls Try.prog 14 #[.int .i64 x, .int .i64 n] w fun e w' => e = .returned (.int .i64 y) ∧ w = w' := by
  subst h
  exact low_any x n h1 h2 w
theorem due_is {e b a : Int} {v : Bool} (h : dueB e b a = v) (hma : a ≤ 9223372036854775807) (w : World) : Calls Try.prog 9 #[.int .i64 e, .int .i64 b, .int .i64 a] w fun en w' => en = .returned (.bool v) ∧ ∃ n, w' = w.drewN n := by
  subst h
  exact due_any e b a hma w
theorem due_b {e b a : Int} {v : Bool} (h : dueB e b a = v) (hma : a ≤ 9223372036854775807) (w : World) : Calls Try.prog 9 #[.int .i64 e, .int .i64 b, .int .i64 a] w fun en w' => en = .returned (.bool v) ∧ Below w.heap.size w w' := by
  refine (due_is h hma w).mono ?_
  rintro en w' ⟨rfl, n, rfl⟩
  have hb := RowKit.Below.refl w.heap.size w
  exact ⟨rfl, ⟨hb.os, hb.tape, hb.output, hb.size, hb.block⟩⟩
theorem keep_b {W w w1 : World} (h : Below W.heap.size W w) (hb : Below w.heap.size w w1) : Below W.heap.size W w1 := keepB h hb

theorem wrap_in {n : Int} (h : -9223372036854775808 ≤ n) (h' : n ≤ 9223372036854775807) : IntKind.i64.wrap n = n := by
  simp [IntKind.wrap, IntKind.signed, IntKind.bits]
  omega
theorem div_step (E t : Int) (h : 1 ≤ E) : (t + 1) / E = t / E ∨ (t + 1) / E = t / E + 1 := by
  have h1 : t / E ≤ (t + 1) / E := Int.ediv_le_ediv (by omega) (by omega)
  have h2 : (t + 1) / E ≤ (t + E) / E := Int.ediv_le_ediv (by omega) (by omega)
  rw [show t + E = t + 1 * E by omega, Int.add_mul_ediv_right _ _ (by omega)] at h2
  omega
theorem div_bd {E t : Int} (h : 1 ≤ E) (h0 : 0 ≤ t) : 0 ≤ t / E ∧ t / E ≤ t :=
  ⟨Int.ediv_nonneg h0 (by omega), Int.ediv_le_self _ h0⟩
theorem due_step {E t : Int} (h : 1 ≤ E) (h0 : 0 ≤ t) : dueB E t (t + 1) = decide (t / E < (t + 1) / E) := by simp [dueB, h, h0]; omega

set_option maxRecDepth 100000 in
set_option maxHeartbeats 4000000 in
theorem counts_walk (a0 a1 a2 : Int) (w : World) :
    Calls Try.prog 4 #[.int .i64 a0, .int .i64 a1, .int .i64 a2] w fun e w' => e = .returned (.bool true) ∧ Below w.heap.size w w' := by
  obtain ⟨b11, b12⟩ := low_bd a0 100 (by omega)
  obtain ⟨b21, b22⟩ := low_bd a1 300 (by omega)
  obtain ⟨b31, b32⟩ := low_bd a2 50 (by omega)
  go_enter Try.func4, Try.ntmps4
  go_wp2_with (go_at_call 14; refine (low_any _ _ (by omega) (by omega) _).mono ?_; rintro e w' ⟨rfl, rfl⟩)
  generalize low a0 100 = E at *
  generalize low a1 300 = F at *
  generalize low a2 50 = S at *
  obtain ⟨d, hd⟩ : ∃ d, d = 1 + E := ⟨_, rfl⟩
  have d1 : 1 ≤ d := by omega
  have d2 : d ≤ 100 := by omega
  have d3 : ¬ d = 0 := by omega
  have d4 : (0 : Int) ≤ F + S := by omega
  rw [← hd]
  clear hd b11 b12
  go_loopw [7, 8] (fun n t wr => ∃ x y : Int, n = .int .i64 x ∧ t = .int .i64 y ∧ F ≤ y ∧ y ≤ F + S ∧ x = y / d - F / d ∧ ∃ q, wr = w.drewN q) (fun _ t _ => (F + S - intOf t).toNat)
  case atStart => exact ⟨0, F, rfl, rfl, Int.le_refl _, by omega, by omega, 0, rfl⟩
  case round =>
    obtain ⟨x, y, rfl, rfl, hy0, hy1, hx, q, rfl⟩ := hrel
    have hd1 := div_bd (show 1 ≤ d by omega) (show 0 ≤ y by omega)
    have hd2 := div_bd (show 1 ≤ d by omega) (show 0 ≤ F by omega)
    obtain ⟨hd11, hd12⟩ := hd1
    obtain ⟨hd21, hd22⟩ := hd2
    by_cases hlt : y < F + S
    · have hst := div_step d y (by omega)
      by_cases hc : (y + 1) / d = y / d
      · have hd : dueB d y (y + 1) = false := by rw [due_step (by omega) (by omega)]; simp; omega
        go_wp2_with (go_at_call 9; refine (due_is hd (by omega) _).mono ?_; rintro e w1 ⟨rfl, q, rfl⟩)
        go_roundw
        case rel => exact ⟨_, y + 1, rfl, by go_num, by omega, by omega, by omega, _, rfl⟩
        case measure => simp [intOf]; omega
      · have hd : dueB d y (y + 1) = true := by rw [due_step (by omega) (by omega)]; simp; omega
        go_wp2_with (go_at_call 9; refine (due_is hd (by omega) _).mono ?_; rintro e w1 ⟨rfl, q, rfl⟩)
        go_roundw
        case rel => exact ⟨_, y + 1, rfl, by go_num, by omega, by omega, by omega, _, rfl⟩
        case measure => simp [intOf]; omega
    · obtain rfl : y = F + S := by omega
      have g1 : dueB d F F = false := by simp [dueB]
      have g2 : dueB 0 F (F + S) = false := by simp [dueB]
      have g3 : dueB d (F + 1) F = false := by simp [dueB]; omega
      have g0 : dueB d F (F + S) = decide (F / d < (F + S) / d) := (due_eq (by omega) (by omega) (by omega)).symm
      have hb0 := RowKit.Below.refl w.heap.size w
      have h1 : Below w.heap.size w (w.drewN q) := ⟨hb0.os, hb0.tape, hb0.output, hb0.size, hb0.block⟩
      have h2 := h1.drew
      have f1 : IntKind.i64.wrap (F + S) = F + S := wrap_in (by omega) (by omega)
      have f2 : IntKind.i64.wrap ((F + S).tdiv d) = (F + S) / d := by rw [Int.tdiv_eq_ediv_of_nonneg d4]; exact wrap_in (by omega) (by omega)
      have f3 : IntKind.i64.wrap (F.tdiv d) = F / d := by rw [Int.tdiv_eq_ediv_of_nonneg b21]; exact wrap_in (by omega) (by omega)
      have f4 : IntKind.i64.wrap ((F + S) / d - F / d) = (F + S) / d - F / d := wrap_in (by omega) (by omega)
      have f5 : IntKind.i64.wrap (F + 1) = F + 1 := wrap_in (by omega) (by omega)
      by_cases hp : F / d < (F + S) / d
      · rw [decide_eq_true hp] at g0
        have hn : (F + S) / d - F / d > 0 := by omega
        go_wp2_with fail
        go_region_held3 (fun w' => Below w.heap.size w w') (first | (exact keep_b (by assumption) hb) | (exact h2) | go_keep)
          (first | ((go_at_call 9; refine (due_b (by assumption) (by omega) _).mono ?_; rintro e w1 ⟨rfl, hb⟩)) | ((go_at_call 5; refine (awake_any _).mono ?_; rintro e w1 ⟨rfl, hb⟩)))
        go_wp2_with fail
        go_ret
        rename_i hH
        exact ⟨rfl, hH⟩
      · rw [decide_eq_false hp] at g0
        have hm : F / d ≤ (F + S) / d := Int.ediv_le_ediv (by omega) (by omega)
        have hQ : (F + S) / d = F / d := by omega
        have hx0 : x = 0 := by omega
        clear hx
        subst hx0
        rw [hQ] at f2 f4
        rw [Int.sub_self] at f4
        clear hQ hm hp hd11 hd12 hd21 hd22
        generalize F / d = Q at *
        go_wp2_with fail
        go_region_held3 (fun w' => Below w.heap.size w w') (first | (exact keep_b (by assumption) hb) | (exact h2) | go_keep)
          (first | ((go_at_call 9; refine (due_b (by assumption) (by omega) _).mono ?_; rintro e w1 ⟨rfl, hb⟩)) | ((go_at_call 5; refine (awake_any _).mono ?_; rintro e w1 ⟨rfl, hb⟩)))
        go_wp2_with fail
        go_ret
        rename_i hH
        exact ⟨rfl, hH⟩
end Go.Proofs.Ythibbhkjfopjcaa
