/-
  TableLines: some runs, as the kernel works them out.
-/
import Derived.Test.YtgmkplkonhkecaaAwake
namespace Go.Proofs.Ytgmkplkonhkecaa
theorem run_2_0_0 : runK 2 0 0 = true := by kernel_rfl
theorem run_2_2_2 : runK 2 2 2 = true := by kernel_rfl
theorem run_4_2_2 : runK 4 2 2 = true := by kernel_rfl
theorem run_4_4_4 : runK 4 4 4 = true := by kernel_rfl
theorem run_5_0_0 : runK 5 0 0 = true := by kernel_rfl
theorem run_5_1_0 : runK 5 1 0 = true := by kernel_rfl
theorem run_5_3_0 : runK 5 3 0 = true := by kernel_rfl
theorem run_5_5_0 : runK 5 5 0 = true := by kernel_rfl
theorem run_6_0_6 : runK 6 0 6 = true := by kernel_rfl
theorem run_6_1_6 : runK 6 1 6 = true := by kernel_rfl
theorem run_6_3_4 : runK 6 3 4 = true := by kernel_rfl
theorem run_6_5_2 : runK 6 5 2 = true := by kernel_rfl
theorem run_7_2_6 : runK 7 2 6 = true := by kernel_rfl
theorem run_7_4_2 : runK 7 4 2 = true := by kernel_rfl
theorem run_7_5_6 : runK 7 5 6 = true := by kernel_rfl
theorem run_7_7_2 : runK 7 7 2 = true := by kernel_rfl
theorem run_8_0_0 : runK 8 0 0 = true := by kernel_rfl
theorem run_8_0_8 : runK 8 0 8 = true := by kernel_rfl
theorem run_8_2_2 : runK 8 2 2 = true := by kernel_rfl
theorem run_8_3_5 : runK 8 3 5 = true := by kernel_rfl
theorem run_8_4_8 : runK 8 4 8 = true := by kernel_rfl
theorem run_8_6_2 : runK 8 6 2 = true := by kernel_rfl
theorem run_8_7_5 : runK 8 7 5 = true := by kernel_rfl
theorem run_8_8_8 : runK 8 8 8 = true := by kernel_rfl
theorem run_9_0_4 : runK 9 0 4 = true := by kernel_rfl
theorem run_9_1_6 : runK 9 1 6 = true := by kernel_rfl
theorem run_9_2_8 : runK 9 2 8 = true := by kernel_rfl
theorem run_9_4_0 : runK 9 4 0 = true := by kernel_rfl
theorem run_9_5_2 : runK 9 5 2 = true := by kernel_rfl
theorem run_9_6_4 : runK 9 6 4 = true := by kernel_rfl
theorem run_9_7_6 : runK 9 7 6 = true := by kernel_rfl
theorem run_9_8_8 : runK 9 8 8 = true := by kernel_rfl
end Go.Proofs.Ytgmkplkonhkecaa
