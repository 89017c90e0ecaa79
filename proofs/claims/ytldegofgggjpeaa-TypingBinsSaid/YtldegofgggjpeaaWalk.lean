/-
  TypingBins: of any operator and any two sides.
-/
import Derived.Test.YtldegofgggjpeaaRunA
import Derived.Test.YtldegofgggjpeaaRunB
import Derived.Test.YtldegofgggjpeaaRunC
import Derived.Test.YtldegofgggjpeaaRunD
namespace Go.Proofs.Ytldegofgggjpeaa
open Go Go.Proofs.Ytldegofgggjpeaa.Sx
open Go.RowKit

theorem runs : ∀ k, k < 18 → runK k = true
  | 0, _ => run0 | 1, _ => run1 | 2, _ => run2 | 3, _ => run3 | 4, _ => run4 | 5, _ => run5 | 6, _ => run6 | 7, _ => run7 | 8, _ => run8
  | 9, _ => run9 | 10, _ => run10 | 11, _ => run11 | 12, _ => run12 | 13, _ => run13 | 14, _ => run14 | 15, _ => run15 | 16, _ => run16 | 17, _ => run17
  | k + 18, h => absurd h (by omega)
def three (a0 a1 a2 : Int) : Nat → Int
  | 0 => a0
  | 1 => a1
  | _ => a2
theorem walk (a0 : Int) (w0 : (Lit.int .i64 a0).wf = true) (a1 : Int) (w1 : (Lit.int .i64 a1).wf = true) (a2 : Int) (w2 : (Lit.int .i64 a2).wf = true) (w : World) :
    Calls Try.prog 3 #[.int .i64 a0, .int .i64 a1, .int .i64 a2] w fun e w' => e = .returned (.bool true) ∧ Below w.heap.size w w' := by
  have _ := w0
  have _ := w1
  have _ := w2
  obtain ⟨k, hk, e0⟩ := low_nat a0 18 (by omega)
  obtain ⟨i, hi, e1⟩ := low_nat a1 3 (by omega)
  obtain ⟨j, hj, e2⟩ := low_nat a2 3 (by omega)
  have hr := runs k hk
  unfold runK at hr
  have hr := List.all_eq_true.1 hr i (List.mem_range.2 hi)
  have hr := List.all_eq_true.1 hr j (List.mem_range.2 hj)
  have h := calls_isV (tabC_ok (σ := three a0 a1 a2) e0 e1 e2) hr rfl rfl w
  have e : ([xN 0, xN 1, xN 2].map (den (three a0 a1 a2) E00)).toArray = #[.int .i64 a0, .int .i64 a1, .int .i64 a2] := by
    simp [xN, den_sym, three]
  rw [e, den_bool] at h
  exact h
end Go.Proofs.Ytldegofgggjpeaa
