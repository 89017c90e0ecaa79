/-
  TableLines: some runs, as the kernel works them out.
-/
import Derived.Test.YtgmkplkonhkecaaAwake
namespace Go.Proofs.Ytgmkplkonhkecaa
theorem run_1_0_1 : runK 1 0 1 = true := by kernel_rfl
theorem run_3_3_1 : runK 3 3 1 = true := by kernel_rfl
theorem run_4_0_3 : runK 4 0 3 = true := by kernel_rfl
theorem run_4_1_4 : runK 4 1 4 = true := by kernel_rfl
theorem run_4_4_1 : runK 4 4 1 = true := by kernel_rfl
theorem run_5_2_3 : runK 5 2 3 = true := by kernel_rfl
theorem run_5_4_3 : runK 5 4 3 = true := by kernel_rfl
theorem run_6_0_3 : runK 6 0 3 = true := by kernel_rfl
theorem run_6_1_3 : runK 6 1 3 = true := by kernel_rfl
theorem run_6_3_1 : runK 6 3 1 = true := by kernel_rfl
theorem run_6_4_6 : runK 6 4 6 = true := by kernel_rfl
theorem run_6_6_4 : runK 6 6 4 = true := by kernel_rfl
theorem run_7_1_0 : runK 7 1 0 = true := by kernel_rfl
theorem run_7_2_3 : runK 7 2 3 = true := by kernel_rfl
theorem run_7_3_7 : runK 7 3 7 = true := by kernel_rfl
theorem run_7_5_3 : runK 7 5 3 = true := by kernel_rfl
theorem run_7_6_7 : runK 7 6 7 = true := by kernel_rfl
theorem run_8_1_8 : runK 8 1 8 = true := by kernel_rfl
theorem run_8_3_2 : runK 8 3 2 = true := by kernel_rfl
theorem run_8_4_5 : runK 8 4 5 = true := by kernel_rfl
theorem run_8_5_8 : runK 8 5 8 = true := by kernel_rfl
theorem run_8_7_2 : runK 8 7 2 = true := by kernel_rfl
theorem run_8_8_5 : runK 8 8 5 = true := by kernel_rfl
theorem run_9_0_1 : runK 9 0 1 = true := by kernel_rfl
theorem run_9_1_3 : runK 9 1 3 = true := by kernel_rfl
theorem run_9_2_5 : runK 9 2 5 = true := by kernel_rfl
theorem run_9_3_7 : runK 9 3 7 = true := by kernel_rfl
theorem run_9_4_9 : runK 9 4 9 = true := by kernel_rfl
theorem run_9_6_1 : runK 9 6 1 = true := by kernel_rfl
theorem run_9_7_3 : runK 9 7 3 = true := by kernel_rfl
theorem run_9_8_5 : runK 9 8 5 = true := by kernel_rfl
theorem run_9_9_7 : runK 9 9 7 = true := by kernel_rfl
end Go.Proofs.Ytgmkplkonhkecaa
