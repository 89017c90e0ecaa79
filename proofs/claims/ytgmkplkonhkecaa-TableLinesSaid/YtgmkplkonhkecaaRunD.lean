/-
  TableLines: some runs, as the kernel works them out.
-/
import Derived.Test.YtgmkplkonhkecaaAwake
namespace Go.Proofs.Ytgmkplkonhkecaa
theorem run_1_1_1 : runK 1 1 1 = true := by kernel_rfl
theorem run_3_3_3 : runK 3 3 3 = true := by kernel_rfl
theorem run_4_1_0 : runK 4 1 0 = true := by kernel_rfl
theorem run_4_2_1 : runK 4 2 1 = true := by kernel_rfl
theorem run_4_4_3 : runK 4 4 3 = true := by kernel_rfl
theorem run_5_2_5 : runK 5 2 5 = true := by kernel_rfl
theorem run_5_4_5 : runK 5 4 5 = true := by kernel_rfl
theorem run_6_0_5 : runK 6 0 5 = true := by kernel_rfl
theorem run_6_1_5 : runK 6 1 5 = true := by kernel_rfl
theorem run_6_3_3 : runK 6 3 3 = true := by kernel_rfl
theorem run_6_5_1 : runK 6 5 1 = true := by kernel_rfl
theorem run_6_6_6 : runK 6 6 6 = true := by kernel_rfl
theorem run_7_1_2 : runK 7 1 2 = true := by kernel_rfl
theorem run_7_2_5 : runK 7 2 5 = true := by kernel_rfl
theorem run_7_4_1 : runK 7 4 1 = true := by kernel_rfl
theorem run_7_5_5 : runK 7 5 5 = true := by kernel_rfl
theorem run_7_7_1 : runK 7 7 1 = true := by kernel_rfl
theorem run_8_2_1 : runK 8 2 1 = true := by kernel_rfl
theorem run_8_3_4 : runK 8 3 4 = true := by kernel_rfl
theorem run_8_4_7 : runK 8 4 7 = true := by kernel_rfl
theorem run_8_6_1 : runK 8 6 1 = true := by kernel_rfl
theorem run_8_7_4 : runK 8 7 4 = true := by kernel_rfl
theorem run_8_8_7 : runK 8 8 7 = true := by kernel_rfl
theorem run_9_0_3 : runK 9 0 3 = true := by kernel_rfl
theorem run_9_1_5 : runK 9 1 5 = true := by kernel_rfl
theorem run_9_2_7 : runK 9 2 7 = true := by kernel_rfl
theorem run_9_3_9 : runK 9 3 9 = true := by kernel_rfl
theorem run_9_5_1 : runK 9 5 1 = true := by kernel_rfl
theorem run_9_6_3 : runK 9 6 3 = true := by kernel_rfl
theorem run_9_7_5 : runK 9 7 5 = true := by kernel_rfl
theorem run_9_8_7 : runK 9 8 7 = true := by kernel_rfl
theorem run_9_9_9 : runK 9 9 9 = true := by kernel_rfl
end Go.Proofs.Ytgmkplkonhkecaa
