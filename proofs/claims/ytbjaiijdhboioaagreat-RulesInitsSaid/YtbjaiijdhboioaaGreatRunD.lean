/-
  RulesInits: some runs, as the kernel works them out.
-/
import Derived.Test.YtbjaiijdhboioaaGreatAwake
namespace Go.Proofs.YtbjaiijdhboioaaGreat
theorem allT_0_2_2 : allT 0 2 2 = true := by kernel_rfl
theorem allT_1_2_2 : allT 1 2 2 = true := by kernel_rfl
theorem allS_1_3 : allS 1 3 = true := by kernel_rfl
theorem allS_2_3 : allS 2 3 = true := by kernel_rfl
theorem allS_3_1 : allS 3 1 = true := by kernel_rfl
theorem allS_4_2 : allS 4 2 = true := by kernel_rfl
theorem runS_1_2 : runS 1 2 0 = true := by kernel_rfl
end Go.Proofs.YtbjaiijdhboioaaGreat
