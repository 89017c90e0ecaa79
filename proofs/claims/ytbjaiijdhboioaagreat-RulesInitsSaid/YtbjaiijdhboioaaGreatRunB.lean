/-
  RulesInits: some runs, as the kernel works them out.
-/
import Derived.Test.YtbjaiijdhboioaaGreatAwake
namespace Go.Proofs.YtbjaiijdhboioaaGreat
theorem allT_0_1_2 : allT 0 1 2 = true := by kernel_rfl
theorem allT_1_1_2 : allT 1 1 2 = true := by kernel_rfl
theorem allS_0_3 : allS 0 3 = true := by kernel_rfl
theorem allS_2_1 : allS 2 1 = true := by kernel_rfl
theorem allS_2_5 : allS 2 5 = true := by kernel_rfl
theorem allS_4_0 : allS 4 0 = true := by kernel_rfl
theorem runS_0_2 : runS 0 2 0 = true := by kernel_rfl
end Go.Proofs.YtbjaiijdhboioaaGreat
