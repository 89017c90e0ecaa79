/-
  TableLines: some runs, as the kernel works them out.
-/
import Derived.Test.YtgmkplkonhkecaaAwake
namespace Go.Proofs.Ytgmkplkonhkecaa
theorem run_2_0_1 : runK 2 0 1 = true := by kernel_rfl
theorem run_3_0_0 : runK 3 0 0 = true := by kernel_rfl
theorem run_3_1_1 : runK 3 1 1 = true := by kernel_rfl
theorem run_4_2_3 : runK 4 2 3 = true := by kernel_rfl
theorem run_5_0_1 : runK 5 0 1 = true := by kernel_rfl
theorem run_5_1_1 : runK 5 1 1 = true := by kernel_rfl
theorem run_5_3_1 : runK 5 3 1 = true := by kernel_rfl
theorem run_5_5_1 : runK 5 5 1 = true := by kernel_rfl
theorem run_6_2_0 : runK 6 2 0 = true := by kernel_rfl
theorem run_6_3_5 : runK 6 3 5 = true := by kernel_rfl
theorem run_6_5_3 : runK 6 5 3 = true := by kernel_rfl
theorem run_7_0_0 : runK 7 0 0 = true := by kernel_rfl
theorem run_7_1_3 : runK 7 1 3 = true := by kernel_rfl
theorem run_7_2_7 : runK 7 2 7 = true := by kernel_rfl
theorem run_7_4_3 : runK 7 4 3 = true := by kernel_rfl
theorem run_7_5_7 : runK 7 5 7 = true := by kernel_rfl
theorem run_7_7_3 : runK 7 7 3 = true := by kernel_rfl
theorem run_8_0_1 : runK 8 0 1 = true := by kernel_rfl
theorem run_8_1_0 : runK 8 1 0 = true := by kernel_rfl
theorem run_8_2_3 : runK 8 2 3 = true := by kernel_rfl
theorem run_8_3_6 : runK 8 3 6 = true := by kernel_rfl
theorem run_8_5_0 : runK 8 5 0 = true := by kernel_rfl
theorem run_8_6_3 : runK 8 6 3 = true := by kernel_rfl
theorem run_8_7_6 : runK 8 7 6 = true := by kernel_rfl
theorem run_9_0_5 : runK 9 0 5 = true := by kernel_rfl
theorem run_9_1_7 : runK 9 1 7 = true := by kernel_rfl
theorem run_9_2_9 : runK 9 2 9 = true := by kernel_rfl
theorem run_9_4_1 : runK 9 4 1 = true := by kernel_rfl
theorem run_9_5_3 : runK 9 5 3 = true := by kernel_rfl
theorem run_9_6_5 : runK 9 6 5 = true := by kernel_rfl
theorem run_9_7_7 : runK 9 7 7 = true := by kernel_rfl
theorem run_9_8_9 : runK 9 8 9 = true := by kernel_rfl
end Go.Proofs.Ytgmkplkonhkecaa
