/-
  TableLines: the sample; a run for so many classes, asked of one of them, one with a method of its own.
-/
import Derived.Test.YtgmkplkonhkecaaLow
namespace Go.Proofs.Ytgmkplkonhkecaa
open Go Go.Proofs.Ytgmkplkonhkecaa.Sx
open Go.RowKit
theorem awake_run : isV (.bool true) (funR (tabW [] [] []) 300 11 [] ⟨.nil, 1⟩) = true := by kernel_rfl
def awakeC : Ctr := ⟨11, [], .bool true⟩
theorem awakeC_ok {σ : Nat → Int} : flatV awakeC.v = true ∧ awakeC.args.all flatV = true ∧ ∀ w, Calls Try.prog awakeC.f (awakeC.args.map (den σ E00)).toArray w fun r w' => r = .returned (den σ E00 awakeC.v) ∧ Below w.heap.size w w' :=
  ⟨rfl, rfl, fun w => calls_isR tab_plain awake_run rfl rfl w⟩
noncomputable def tabC (m k j : Nat) : Tab := tabW [] [] [lowC 0 10 m, lowC 1 (m + 1) k, lowC 2 (m + 1) j, awakeC]
noncomputable def runK (m k j : Nat) : Bool := isV (.bool true) (funR (tabC m k j) 300 3 [xN 0, xN 1, xN 2] ⟨.nil, 1⟩)
end Go.Proofs.Ytgmkplkonhkecaa
