/-
  TypingBins: some operators, as the kernel works them out.
-/
import Derived.Test.YtldegofgggjpeaaAwake
namespace Go.Proofs.Ytldegofgggjpeaa
theorem run14 : runK 14 = true := by kernel_rfl
theorem run15 : runK 15 = true := by kernel_rfl
theorem run16 : runK 16 = true := by kernel_rfl
theorem run17 : runK 17 = true := by kernel_rfl
end Go.Proofs.Ytldegofgggjpeaa
