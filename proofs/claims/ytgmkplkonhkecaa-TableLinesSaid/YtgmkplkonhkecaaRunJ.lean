/-
  TableLines: some runs, as the kernel works them out.
-/
import Derived.Test.YtgmkplkonhkecaaAwake
namespace Go.Proofs.Ytgmkplkonhkecaa
theorem run_2_1_2 : runK 2 1 2 = true := by kernel_rfl
theorem run_3_1_0 : runK 3 1 0 = true := by kernel_rfl
theorem run_3_2_1 : runK 3 2 1 = true := by kernel_rfl
theorem run_4_3_2 : runK 4 3 2 = true := by kernel_rfl
theorem run_5_0_5 : runK 5 0 5 = true := by kernel_rfl
theorem run_5_1_5 : runK 5 1 5 = true := by kernel_rfl
theorem run_5_3_5 : runK 5 3 5 = true := by kernel_rfl
theorem run_5_5_5 : runK 5 5 5 = true := by kernel_rfl
theorem run_6_2_4 : runK 6 2 4 = true := by kernel_rfl
theorem run_6_4_2 : runK 6 4 2 = true := by kernel_rfl
theorem run_6_6_0 : runK 6 6 0 = true := by kernel_rfl
theorem run_7_0_4 : runK 7 0 4 = true := by kernel_rfl
theorem run_7_1_7 : runK 7 1 7 = true := by kernel_rfl
theorem run_7_3_3 : runK 7 3 3 = true := by kernel_rfl
theorem run_7_4_7 : runK 7 4 7 = true := by kernel_rfl
theorem run_7_6_3 : runK 7 6 3 = true := by kernel_rfl
theorem run_7_7_7 : runK 7 7 7 = true := by kernel_rfl
theorem run_8_0_5 : runK 8 0 5 = true := by kernel_rfl
theorem run_8_1_4 : runK 8 1 4 = true := by kernel_rfl
theorem run_8_2_7 : runK 8 2 7 = true := by kernel_rfl
theorem run_8_4_1 : runK 8 4 1 = true := by kernel_rfl
theorem run_8_5_4 : runK 8 5 4 = true := by kernel_rfl
theorem run_8_6_7 : runK 8 6 7 = true := by kernel_rfl
theorem run_8_8_1 : runK 8 8 1 = true := by kernel_rfl
theorem run_9_0_9 : runK 9 0 9 = true := by kernel_rfl
theorem run_9_2_1 : runK 9 2 1 = true := by kernel_rfl
theorem run_9_3_3 : runK 9 3 3 = true := by kernel_rfl
theorem run_9_4_5 : runK 9 4 5 = true := by kernel_rfl
theorem run_9_5_7 : runK 9 5 7 = true := by kernel_rfl
theorem run_9_6_9 : runK 9 6 9 = true := by kernel_rfl
theorem run_9_8_1 : runK 9 8 1 = true := by kernel_rfl
theorem run_9_9_3 : runK 9 9 3 = true := by kernel_rfl
end Go.Proofs.Ytgmkplkonhkecaa
