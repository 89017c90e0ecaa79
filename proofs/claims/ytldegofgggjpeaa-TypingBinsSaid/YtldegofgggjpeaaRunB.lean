/-
  TypingBins: some operators, as the kernel works them out.
-/
import Derived.Test.YtldegofgggjpeaaAwake
namespace Go.Proofs.Ytldegofgggjpeaa
theorem run5 : runK 5 = true := by kernel_rfl
theorem run6 : runK 6 = true := by kernel_rfl
theorem run7 : runK 7 = true := by kernel_rfl
theorem run8 : runK 8 = true := by kernel_rfl
theorem run9 : runK 9 = true := by kernel_rfl
end Go.Proofs.Ytldegofgggjpeaa
