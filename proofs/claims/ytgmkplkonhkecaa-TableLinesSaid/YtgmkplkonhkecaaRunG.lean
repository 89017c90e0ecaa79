/-
  TableLines: some runs, as the kernel works them out.
-/
import Derived.Test.YtgmkplkonhkecaaAwake
namespace Go.Proofs.Ytgmkplkonhkecaa
theorem run_2_0_2 : runK 2 0 2 = true := by kernel_rfl
theorem run_3_0_1 : runK 3 0 1 = true := by kernel_rfl
theorem run_3_1_2 : runK 3 1 2 = true := by kernel_rfl
theorem run_4_2_4 : runK 4 2 4 = true := by kernel_rfl
theorem run_5_0_2 : runK 5 0 2 = true := by kernel_rfl
theorem run_5_1_2 : runK 5 1 2 = true := by kernel_rfl
theorem run_5_3_2 : runK 5 3 2 = true := by kernel_rfl
theorem run_5_5_2 : runK 5 5 2 = true := by kernel_rfl
theorem run_6_2_1 : runK 6 2 1 = true := by kernel_rfl
theorem run_6_3_6 : runK 6 3 6 = true := by kernel_rfl
theorem run_6_5_4 : runK 6 5 4 = true := by kernel_rfl
theorem run_7_0_1 : runK 7 0 1 = true := by kernel_rfl
theorem run_7_1_4 : runK 7 1 4 = true := by kernel_rfl
theorem run_7_3_0 : runK 7 3 0 = true := by kernel_rfl
theorem run_7_4_4 : runK 7 4 4 = true := by kernel_rfl
theorem run_7_6_0 : runK 7 6 0 = true := by kernel_rfl
theorem run_7_7_4 : runK 7 7 4 = true := by kernel_rfl
theorem run_8_0_2 : runK 8 0 2 = true := by kernel_rfl
theorem run_8_1_1 : runK 8 1 1 = true := by kernel_rfl
theorem run_8_2_4 : runK 8 2 4 = true := by kernel_rfl
theorem run_8_3_7 : runK 8 3 7 = true := by kernel_rfl
theorem run_8_5_1 : runK 8 5 1 = true := by kernel_rfl
theorem run_8_6_4 : runK 8 6 4 = true := by kernel_rfl
theorem run_8_7_7 : runK 8 7 7 = true := by kernel_rfl
theorem run_9_0_6 : runK 9 0 6 = true := by kernel_rfl
theorem run_9_1_8 : runK 9 1 8 = true := by kernel_rfl
theorem run_9_3_0 : runK 9 3 0 = true := by kernel_rfl
theorem run_9_4_2 : runK 9 4 2 = true := by kernel_rfl
theorem run_9_5_4 : runK 9 5 4 = true := by kernel_rfl
theorem run_9_6_6 : runK 9 6 6 = true := by kernel_rfl
theorem run_9_7_8 : runK 9 7 8 = true := by kernel_rfl
theorem run_9_9_0 : runK 9 9 0 = true := by kernel_rfl
end Go.Proofs.Ytgmkplkonhkecaa
