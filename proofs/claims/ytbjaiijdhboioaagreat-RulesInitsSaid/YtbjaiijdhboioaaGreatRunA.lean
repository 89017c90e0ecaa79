/-
  RulesInits: some runs, as the kernel works them out.
-/
import Derived.Test.YtbjaiijdhboioaaGreatAwake
namespace Go.Proofs.YtbjaiijdhboioaaGreat
theorem allT_0_1_1 : allT 0 1 1 = true := by kernel_rfl
theorem allT_1_1_1 : allT 1 1 1 = true := by kernel_rfl
theorem allS_0_0 : allS 0 0 = true := by kernel_rfl
theorem allS_2_0 : allS 2 0 = true := by kernel_rfl
theorem allS_2_4 : allS 2 4 = true := by kernel_rfl
theorem allS_3_2 : allS 3 2 = true := by kernel_rfl
theorem runS_0_1 : runS 0 1 0 = true := by kernel_rfl
end Go.Proofs.YtbjaiijdhboioaaGreat
