/-
  TypingBins: some operators, as the kernel works them out.
-/
import Derived.Test.YtldegofgggjpeaaAwake
namespace Go.Proofs.Ytldegofgggjpeaa
theorem run10 : runK 10 = true := by kernel_rfl
theorem run11 : runK 11 = true := by kernel_rfl
theorem run12 : runK 12 = true := by kernel_rfl
theorem run13 : runK 13 = true := by kernel_rfl
end Go.Proofs.Ytldegofgggjpeaa
