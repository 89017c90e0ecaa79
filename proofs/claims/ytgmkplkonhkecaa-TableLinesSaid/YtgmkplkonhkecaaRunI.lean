/-
  TableLines: some runs, as the kernel works them out.
-/
import Derived.Test.YtgmkplkonhkecaaAwake
namespace Go.Proofs.Ytgmkplkonhkecaa
theorem run_2_1_1 : runK 2 1 1 = true := by kernel_rfl
theorem run_3_0_3 : runK 3 0 3 = true := by kernel_rfl
theorem run_3_2_0 : runK 3 2 0 = true := by kernel_rfl
theorem run_4_3_1 : runK 4 3 1 = true := by kernel_rfl
theorem run_5_0_4 : runK 5 0 4 = true := by kernel_rfl
theorem run_5_1_4 : runK 5 1 4 = true := by kernel_rfl
theorem run_5_3_4 : runK 5 3 4 = true := by kernel_rfl
theorem run_5_5_4 : runK 5 5 4 = true := by kernel_rfl
theorem run_6_2_3 : runK 6 2 3 = true := by kernel_rfl
theorem run_6_4_1 : runK 6 4 1 = true := by kernel_rfl
theorem run_6_5_6 : runK 6 5 6 = true := by kernel_rfl
theorem run_7_0_3 : runK 7 0 3 = true := by kernel_rfl
theorem run_7_1_6 : runK 7 1 6 = true := by kernel_rfl
theorem run_7_3_2 : runK 7 3 2 = true := by kernel_rfl
theorem run_7_4_6 : runK 7 4 6 = true := by kernel_rfl
theorem run_7_6_2 : runK 7 6 2 = true := by kernel_rfl
theorem run_7_7_6 : runK 7 7 6 = true := by kernel_rfl
theorem run_8_0_4 : runK 8 0 4 = true := by kernel_rfl
theorem run_8_1_3 : runK 8 1 3 = true := by kernel_rfl
theorem run_8_2_6 : runK 8 2 6 = true := by kernel_rfl
theorem run_8_4_0 : runK 8 4 0 = true := by kernel_rfl
theorem run_8_5_3 : runK 8 5 3 = true := by kernel_rfl
theorem run_8_6_6 : runK 8 6 6 = true := by kernel_rfl
theorem run_8_8_0 : runK 8 8 0 = true := by kernel_rfl
theorem run_9_0_8 : runK 9 0 8 = true := by kernel_rfl
theorem run_9_2_0 : runK 9 2 0 = true := by kernel_rfl
theorem run_9_3_2 : runK 9 3 2 = true := by kernel_rfl
theorem run_9_4_4 : runK 9 4 4 = true := by kernel_rfl
theorem run_9_5_6 : runK 9 5 6 = true := by kernel_rfl
theorem run_9_6_8 : runK 9 6 8 = true := by kernel_rfl
theorem run_9_8_0 : runK 9 8 0 = true := by kernel_rfl
theorem run_9_9_2 : runK 9 9 2 = true := by kernel_rfl
end Go.Proofs.Ytgmkplkonhkecaa
