/-
  TypingBins: some operators, as the kernel works them out.
-/
import Derived.Test.YtldegofgggjpeaaAwake
namespace Go.Proofs.Ytldegofgggjpeaa
theorem run0 : runK 0 = true := by kernel_rfl
theorem run1 : runK 1 = true := by kernel_rfl
theorem run2 : runK 2 = true := by kernel_rfl
theorem run3 : runK 3 = true := by kernel_rfl
theorem run4 : runK 4 = true := by kernel_rfl
end Go.Proofs.Ytldegofgggjpeaa
