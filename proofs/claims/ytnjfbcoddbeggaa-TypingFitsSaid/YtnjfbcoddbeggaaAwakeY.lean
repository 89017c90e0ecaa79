/-
  The sample of the law, worked out.
-/
import Derived.Test.YtnjfbcoddbeggaaTab
import Derived.WalkKit
namespace Go.Proofs.Ytnjfbcoddbeggaa
open Go Go.Proofs.Ytnjfbcoddbeggaa.Sx
open Go.RowKit
def sg0Y : Sg := ⟨fun _ => 0, fun _ => .nilFunc, [], fun _ => rfl, fun _ => rfl⟩
theorem awake_runY : isV (.bool true) (funS (tabW [] [] [] [] []) 400 31 [] ⟨.nil, 1⟩) = true := by kernel_rfl
theorem awake_anyY (w : World) : Calls Try.prog 31 #[] w fun e w' => e = .returned (.bool true) ∧ Below w.heap.size w w' := by
  have h := calls_isS (σ := sg0Y) tab_plain awake_runY rfl rfl w nil_mem
  rw [den_bool] at h
  exact h
end Go.Proofs.Ytnjfbcoddbeggaa
