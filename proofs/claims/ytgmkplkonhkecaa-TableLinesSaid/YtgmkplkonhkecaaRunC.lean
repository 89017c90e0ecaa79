/-
  TableLines: some runs, as the kernel works them out.
-/
import Derived.Test.YtgmkplkonhkecaaAwake
namespace Go.Proofs.Ytgmkplkonhkecaa
theorem run_1_1_0 : runK 1 1 0 = true := by kernel_rfl
theorem run_3_3_2 : runK 3 3 2 = true := by kernel_rfl
theorem run_4_0_4 : runK 4 0 4 = true := by kernel_rfl
theorem run_4_2_0 : runK 4 2 0 = true := by kernel_rfl
theorem run_4_4_2 : runK 4 4 2 = true := by kernel_rfl
theorem run_5_2_4 : runK 5 2 4 = true := by kernel_rfl
theorem run_5_4_4 : runK 5 4 4 = true := by kernel_rfl
theorem run_6_0_4 : runK 6 0 4 = true := by kernel_rfl
theorem run_6_1_4 : runK 6 1 4 = true := by kernel_rfl
theorem run_6_3_2 : runK 6 3 2 = true := by kernel_rfl
theorem run_6_5_0 : runK 6 5 0 = true := by kernel_rfl
theorem run_6_6_5 : runK 6 6 5 = true := by kernel_rfl
theorem run_7_1_1 : runK 7 1 1 = true := by kernel_rfl
theorem run_7_2_4 : runK 7 2 4 = true := by kernel_rfl
theorem run_7_4_0 : runK 7 4 0 = true := by kernel_rfl
theorem run_7_5_4 : runK 7 5 4 = true := by kernel_rfl
theorem run_7_7_0 : runK 7 7 0 = true := by kernel_rfl
theorem run_8_2_0 : runK 8 2 0 = true := by kernel_rfl
theorem run_8_3_3 : runK 8 3 3 = true := by kernel_rfl
theorem run_8_4_6 : runK 8 4 6 = true := by kernel_rfl
theorem run_8_6_0 : runK 8 6 0 = true := by kernel_rfl
theorem run_8_7_3 : runK 8 7 3 = true := by kernel_rfl
theorem run_8_8_6 : runK 8 8 6 = true := by kernel_rfl
theorem run_9_0_2 : runK 9 0 2 = true := by kernel_rfl
theorem run_9_1_4 : runK 9 1 4 = true := by kernel_rfl
theorem run_9_2_6 : runK 9 2 6 = true := by kernel_rfl
theorem run_9_3_8 : runK 9 3 8 = true := by kernel_rfl
theorem run_9_5_0 : runK 9 5 0 = true := by kernel_rfl
theorem run_9_6_2 : runK 9 6 2 = true := by kernel_rfl
theorem run_9_7_4 : runK 9 7 4 = true := by kernel_rfl
theorem run_9_8_6 : runK 9 8 6 = true := by kernel_rfl
theorem run_9_9_8 : runK 9 9 8 = true := by kernel_rfl
end Go.Proofs.Ytgmkplkonhkecaa
