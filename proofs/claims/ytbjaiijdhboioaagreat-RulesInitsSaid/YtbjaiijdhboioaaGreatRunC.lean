/-
  RulesInits: some runs, as the kernel works them out.
-/
import Derived.Test.YtbjaiijdhboioaaGreatAwake
namespace Go.Proofs.YtbjaiijdhboioaaGreat
theorem allT_0_2_1 : allT 0 2 1 = true := by kernel_rfl
theorem allT_1_2_1 : allT 1 2 1 = true := by kernel_rfl
theorem allS_1_0 : allS 1 0 = true := by kernel_rfl
theorem allS_2_2 : allS 2 2 = true := by kernel_rfl
theorem allS_3_0 : allS 3 0 = true := by kernel_rfl
theorem allS_4_1 : allS 4 1 = true := by kernel_rfl
theorem runS_1_1 : runS 1 1 0 = true := by kernel_rfl
end Go.Proofs.YtbjaiijdhboioaaGreat
