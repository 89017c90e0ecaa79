/-
  TypingBins: its sample holds, as the kernel works it out.
-/
import Derived.Test.YtldegofgggjpeaaLow
namespace Go.Proofs.Ytldegofgggjpeaa
open Go Go.Proofs.Ytldegofgggjpeaa.Sx
open Go.RowKit
theorem awake_run : isV (.bool true) (funE (tabW [] [] []) 300 8 [] ⟨.nil, 1⟩) = true := by kernel_rfl
def awakeC : Ctr := ⟨8, [], .bool true⟩
theorem awakeC_ok {σ : Nat → Int} : flatV awakeC.v = true ∧ awakeC.args.all flatV = true ∧ ∀ w, Calls Try.prog awakeC.f (awakeC.args.map (den σ E00)).toArray w fun r w' => r = .returned (den σ E00 awakeC.v) ∧ Below w.heap.size w w' :=
  ⟨rfl, rfl, fun w => calls_isV tab_plain awake_run rfl rfl w⟩
noncomputable def tabC (k i j : Nat) : Tab := tabW [] [] [lowC 0 18 k, lowC 1 3 i, lowC 2 3 j, awakeC]
theorem tabC_ok {σ : Nat → Int} {k i j : Nat} (h0 : low (σ 0) 18 = k) (h1 : low (σ 1) 3 = i) (h2 : low (σ 2) 3 = j) : (tabC k i j).Ok σ Try.prog :=
  tab_ok nil_mem nil_mem (cons_mem (lowC_ok (by omega) (by omega) h0) (cons_mem (lowC_ok (by omega) (by omega) h1) (cons_mem (lowC_ok (by omega) (by omega) h2) (cons_mem awakeC_ok nil_mem))))
/-- one operator, of any two sides -/
noncomputable def runK (k : Nat) : Bool := (List.range 3).all fun i => (List.range 3).all fun j => isV (.bool true) (funE (tabC k i j) 300 3 [xN 0, xN 1, xN 2] ⟨.nil, 1⟩)
end Go.Proofs.Ytldegofgggjpeaa
