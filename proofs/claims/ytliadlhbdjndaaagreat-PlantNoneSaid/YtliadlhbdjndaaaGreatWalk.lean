/-
  PlantNone: the sample, and what is asked of none, as the kernel works it out.
-/
import Derived.Test.YtliadlhbdjndaaaGreatTab
import Derived.WalkKit
namespace Go.Proofs.YtliadlhbdjndaaaGreat
open Go Go.Proofs.YtliadlhbdjndaaaGreat.Sx
open Go.RowKit
theorem awake_run : isV (.bool true) (funE (tabW [] [] []) 300 7 [] ⟨.nil, 1⟩) = true := by kernel_rfl
def awakeC : Ctr := ⟨7, [], .bool true⟩
theorem awakeC_ok {σ : Nat → Int} : flatV awakeC.v = true ∧ awakeC.args.all flatV = true ∧ ∀ w, Calls Tryz.prog awakeC.f (awakeC.args.map (den σ E00)).toArray w fun r w' => r = .returned (den σ E00 awakeC.v) ∧ Below w.heap.size w w' :=
  ⟨rfl, rfl, fun w => calls_isV tab_plain awake_run rfl rfl w⟩
theorem none_run : isV (.bool true) (funE (tabW [] [] [awakeC]) 300 3 [.float .f64 0] ⟨.nil, 1⟩) = true := by kernel_rfl
theorem walk (a0 : Int) (w0 : (Lit.int .i64 a0).wf = true) (w : World) :
    Calls Tryz.prog 3 #[.int .i64 a0] w fun e w' => e = .returned (.bool true) ∧ Below w.heap.size w w' := by
  have _ := w0
  have h := calls_isV (σ := fun _ => a0) (tab_ok nil_mem nil_mem (cons_mem awakeC_ok nil_mem)) none_run rfl rfl w
  have e : ([Value.float .f64 0].map (den (fun _ => a0) E00)).toArray = #[.int .i64 a0] := by simp [den_sym]
  rw [e, den_bool] at h
  exact h
end Go.Proofs.YtliadlhbdjndaaaGreat
