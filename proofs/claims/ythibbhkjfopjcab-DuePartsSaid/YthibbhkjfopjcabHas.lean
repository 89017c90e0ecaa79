/-
  Whether a number is among others: the law's own helper.
-/
import Derived.Test.YthibbhkjfopjcabWhichAny
namespace Go.Proofs.Ythibbhkjfopjcab
open Go.ChangeShapes Go.WideShapes Go.ChangeAt Go.RowKit

set_option maxRecDepth 100000 in
theorem has_any (A : Option Addr) (n c : Nat) (xs : List Int) (x : Int) (hn : n ≤ 1000000) (w : World) (h : Ints w A n xs) :
    Calls Try.prog 9 #[.slice A n c, .int .i64 x] w fun e w' => e = .returned (.bool (decide (x ∈ xs))) ∧ w = w' := by
  have HI := Lib.hid h
  clear h
  go_enter Try.func9, Try.ntmps9
  go_wp2_with fail
  go_loopw [5] (fun i wr => ∃ k : Nat, k ≤ n ∧ i = .int .i64 (k : Int) ∧ x ∉ xs.take k ∧ w = wr) (fun i _ => n - (intOf i).toNat)
  case atStart => exact ⟨0, Nat.zero_le _, rfl, by simp, rfl⟩
  case round =>
    obtain ⟨k, hk, rfl, hx, rfl⟩ := hrel
    have HX := Lib.hid hx
    clear hx
    by_cases hlt : k < n
    · obtain ⟨g, off, rfl, hc⟩ := HI.out.2 (by omega)
      have d1 := hc k hlt
      have i0 : (0 : Int) ≤ (k : Int) := by omega
      have i1 : (k : Int) < (n : Int) := by omega
      have hkl : k < xs.length := by have := HI.out.1; omega
      have hget : xs.getD k 0 = xs[k] := by simp [List.getD, List.getElem?_eq_getElem hkl]
      rw [hget] at d1
      clear hc hget
      by_cases he : xs[k] = x
      · have hb : (xs[k] == x) = true := by simp [he]
        generalize hy : xs[k] = y at d1 hb he
        have HY := Lib.hid hy
        clear hy
        go_wp2_with fail
        go_ret
        exact ⟨ret_bool (by rw [eq_comm, decide_eq_true_iff, ← he, ← HY.out]; exact List.getElem_mem _), rfl⟩
      · have hb : (xs[k] == x) = false := by simp [he]
        generalize hy : xs[k] = y at d1 hb he
        have HY := Lib.hid hy
        clear hy
        go_wp2_with fail
        go_roundw
        case rel =>
          refine ⟨k + 1, by omega, by go_num, ?_, by trivial⟩
          rw [List.take_succ_eq_append_getElem hkl, List.mem_append, List.mem_singleton]
          rintro (h | h)
          · exact HX.out h
          · exact he (by rw [← HY.out]; exact h.symm)
        case measure => simp [intOf]; omega
    · obtain rfl : k = n := by omega
      go_wp2_with fail
      go_ret
      have hx := HX.out
      rw [List.take_of_length_le (by have := HI.out.1; omega)] at hx
      exact ⟨ret_bool (by simp [hx]), rfl⟩
end Go.Proofs.Ythibbhkjfopjcab
