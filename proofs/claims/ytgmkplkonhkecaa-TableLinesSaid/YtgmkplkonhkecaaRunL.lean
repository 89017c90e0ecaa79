/-
  TableLines: some runs, as the kernel works them out.
-/
import Derived.Test.YtgmkplkonhkecaaAwake
namespace Go.Proofs.Ytgmkplkonhkecaa
theorem run_2_2_1 : runK 2 2 1 = true := by kernel_rfl
theorem run_3_2_3 : runK 3 2 3 = true := by kernel_rfl
theorem run_4_0_1 : runK 4 0 1 = true := by kernel_rfl
theorem run_4_1_2 : runK 4 1 2 = true := by kernel_rfl
theorem run_4_3_4 : runK 4 3 4 = true := by kernel_rfl
theorem run_5_2_1 : runK 5 2 1 = true := by kernel_rfl
theorem run_5_4_1 : runK 5 4 1 = true := by kernel_rfl
theorem run_6_0_1 : runK 6 0 1 = true := by kernel_rfl
theorem run_6_1_1 : runK 6 1 1 = true := by kernel_rfl
theorem run_6_2_6 : runK 6 2 6 = true := by kernel_rfl
theorem run_6_4_4 : runK 6 4 4 = true := by kernel_rfl
theorem run_6_6_2 : runK 6 6 2 = true := by kernel_rfl
theorem run_7_0_6 : runK 7 0 6 = true := by kernel_rfl
theorem run_7_2_1 : runK 7 2 1 = true := by kernel_rfl
theorem run_7_3_5 : runK 7 3 5 = true := by kernel_rfl
theorem run_7_5_1 : runK 7 5 1 = true := by kernel_rfl
theorem run_7_6_5 : runK 7 6 5 = true := by kernel_rfl
theorem run_8_0_7 : runK 8 0 7 = true := by kernel_rfl
theorem run_8_1_6 : runK 8 1 6 = true := by kernel_rfl
theorem run_8_3_0 : runK 8 3 0 = true := by kernel_rfl
theorem run_8_4_3 : runK 8 4 3 = true := by kernel_rfl
theorem run_8_5_6 : runK 8 5 6 = true := by kernel_rfl
theorem run_8_7_0 : runK 8 7 0 = true := by kernel_rfl
theorem run_8_8_3 : runK 8 8 3 = true := by kernel_rfl
theorem run_9_1_1 : runK 9 1 1 = true := by kernel_rfl
theorem run_9_2_3 : runK 9 2 3 = true := by kernel_rfl
theorem run_9_3_5 : runK 9 3 5 = true := by kernel_rfl
theorem run_9_4_7 : runK 9 4 7 = true := by kernel_rfl
theorem run_9_5_9 : runK 9 5 9 = true := by kernel_rfl
theorem run_9_7_1 : runK 9 7 1 = true := by kernel_rfl
theorem run_9_8_3 : runK 9 8 3 = true := by kernel_rfl
theorem run_9_9_5 : runK 9 9 5 = true := by kernel_rfl
end Go.Proofs.Ytgmkplkonhkecaa
