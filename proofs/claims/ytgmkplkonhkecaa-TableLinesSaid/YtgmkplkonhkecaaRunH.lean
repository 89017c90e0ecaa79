/-
  TableLines: some runs, as the kernel works them out.
-/
import Derived.Test.YtgmkplkonhkecaaAwake
namespace Go.Proofs.Ytgmkplkonhkecaa
theorem run_2_1_0 : runK 2 1 0 = true := by kernel_rfl
theorem run_3_0_2 : runK 3 0 2 = true := by kernel_rfl
theorem run_3_1_3 : runK 3 1 3 = true := by kernel_rfl
theorem run_4_3_0 : runK 4 3 0 = true := by kernel_rfl
theorem run_5_0_3 : runK 5 0 3 = true := by kernel_rfl
theorem run_5_1_3 : runK 5 1 3 = true := by kernel_rfl
theorem run_5_3_3 : runK 5 3 3 = true := by kernel_rfl
theorem run_5_5_3 : runK 5 5 3 = true := by kernel_rfl
theorem run_6_2_2 : runK 6 2 2 = true := by kernel_rfl
theorem run_6_4_0 : runK 6 4 0 = true := by kernel_rfl
theorem run_6_5_5 : runK 6 5 5 = true := by kernel_rfl
theorem run_7_0_2 : runK 7 0 2 = true := by kernel_rfl
theorem run_7_1_5 : runK 7 1 5 = true := by kernel_rfl
theorem run_7_3_1 : runK 7 3 1 = true := by kernel_rfl
theorem run_7_4_5 : runK 7 4 5 = true := by kernel_rfl
theorem run_7_6_1 : runK 7 6 1 = true := by kernel_rfl
theorem run_7_7_5 : runK 7 7 5 = true := by kernel_rfl
theorem run_8_0_3 : runK 8 0 3 = true := by kernel_rfl
theorem run_8_1_2 : runK 8 1 2 = true := by kernel_rfl
theorem run_8_2_5 : runK 8 2 5 = true := by kernel_rfl
theorem run_8_3_8 : runK 8 3 8 = true := by kernel_rfl
theorem run_8_5_2 : runK 8 5 2 = true := by kernel_rfl
theorem run_8_6_5 : runK 8 6 5 = true := by kernel_rfl
theorem run_8_7_8 : runK 8 7 8 = true := by kernel_rfl
theorem run_9_0_7 : runK 9 0 7 = true := by kernel_rfl
theorem run_9_1_9 : runK 9 1 9 = true := by kernel_rfl
theorem run_9_3_1 : runK 9 3 1 = true := by kernel_rfl
theorem run_9_4_3 : runK 9 4 3 = true := by kernel_rfl
theorem run_9_5_5 : runK 9 5 5 = true := by kernel_rfl
theorem run_9_6_7 : runK 9 6 7 = true := by kernel_rfl
theorem run_9_7_9 : runK 9 7 9 = true := by kernel_rfl
theorem run_9_9_1 : runK 9 9 1 = true := by kernel_rfl
end Go.Proofs.Ytgmkplkonhkecaa
