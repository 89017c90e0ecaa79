/-
  RulesTasks: of numbers below, within and above their bounds, ahead or not, again or not, as the kernel works it out.
-/
import Derived.Test.YthihfpcoanaeoaaGreatAwake
namespace Go.Proofs.YthihfpcoanaeoaaGreat
open Go Go.Proofs.YthihfpcoanaeoaaGreat.Sx
open Go.RowKit
theorem run00 : runK 0 0 = true := by kernel_rfl
theorem run01 : runK 0 1 = true := by kernel_rfl
theorem run02 : runK 0 2 = true := by kernel_rfl
theorem run10 : runK 1 0 = true := by kernel_rfl
theorem run11 : runK 1 1 = true := by kernel_rfl
theorem run12 : runK 1 2 = true := by kernel_rfl
theorem run20 : runK 2 0 = true := by kernel_rfl
theorem run21 : runK 2 1 = true := by kernel_rfl
theorem run22 : runK 2 2 = true := by kernel_rfl
theorem runs : ∀ e, e < 3 → ∀ f, f < 3 → runK e f = true
  | 0, _, 0, _ => run00 | 0, _, 1, _ => run01 | 0, _, 2, _ => run02
  | 1, _, 0, _ => run10 | 1, _, 1, _ => run11 | 1, _, 2, _ => run12
  | 2, _, 0, _ => run20 | 2, _, 1, _ => run21 | 2, _, 2, _ => run22
  | e + 3, h, _, _ => absurd h (by omega)
  | 0, _, f + 3, h => absurd h (by omega) | 1, _, f + 3, h => absurd h (by omega) | 2, _, f + 3, h => absurd h (by omega)
def six (a0 a1 : Int) : Nat → Int
  | 0 => a0
  | 1 => a1
  | 2 => low a0 114
  | 3 => low a1 20
  | 4 => low a0 114 - 3
  | _ => low a1 20 - 3
theorem walk (a0 : Int) (w0 : (Lit.int .i64 a0).wf = true) (a1 : Int) (w1 : (Lit.int .i64 a1).wf = true) (a2 a3 : Bool) (w : World) :
    Calls Tryz.prog 3 #[.int .i64 a0, .int .i64 a1, .bool a2, .bool a3] w fun e w' => e = .returned (.bool true) ∧ Below w.heap.size w w' := by
  have _ := w0
  have _ := w1
  have b0 := low_bd a0 114 (by omega)
  have b1 := low_bd a1 20 (by omega)
  obtain ⟨c, hc, ho⟩ := cmp_ok (σ := six a0 a1) (i := 4) (lo := 1) (hi := 100) (by omega)
  obtain ⟨d, hd, hp⟩ := cmp_ok (σ := six a0 a1) (i := 5) (lo := 0) (hi := 9) (by omega)
  have hs4 : OrcOk (six a0 a1) ⟨.sub, xN 2, kN 3, xN 4⟩ := orc_sub rfl (by show _ ≤ low a0 114 - 3; omega) (by show low a0 114 - 3 ≤ _; omega)
  have hs5 : OrcOk (six a0 a1) ⟨.sub, xN 3, kN 3, xN 5⟩ := orc_sub rfl (by show _ ≤ low a1 20 - 3; omega) (by show low a1 20 - 3 ≤ _; omega)
  have hr := runs c hc d hd
  unfold runK at hr
  have hr := List.all_eq_true.1 hr a2 (by cases a2 <;> simp)
  have hr := List.all_eq_true.1 hr a3 (by cases a3 <;> simp)
  have h := calls_isV (tab_ok (σ := six a0 a1) (app_mem (cons_mem hs4 (cons_mem hs5 nil_mem)) (app_mem ho hp)) nil_mem (cons_mem (lowS_ok (by omega) (by omega) rfl) (cons_mem (lowS_ok (by omega) (by omega) rfl) (cons_mem awakeC_ok nil_mem)))) hr rfl rfl w
  have e : ([xN 0, xN 1, .bool a2, .bool a3].map (den (six a0 a1) E00)).toArray = #[.int .i64 a0, .int .i64 a1, .bool a2, .bool a3] := by
    simp [xN, den_sym, six, den_bool]
  rw [e, den_bool] at h
  exact h
end Go.Proofs.YthihfpcoanaeoaaGreat
