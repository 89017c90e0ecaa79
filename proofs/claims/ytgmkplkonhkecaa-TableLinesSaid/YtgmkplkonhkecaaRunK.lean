/-
  TableLines: some runs, as the kernel works them out.
-/
import Derived.Test.YtgmkplkonhkecaaAwake
namespace Go.Proofs.Ytgmkplkonhkecaa
theorem run_2_2_0 : runK 2 2 0 = true := by kernel_rfl
theorem run_3_2_2 : runK 3 2 2 = true := by kernel_rfl
theorem run_4_0_0 : runK 4 0 0 = true := by kernel_rfl
theorem run_4_1_1 : runK 4 1 1 = true := by kernel_rfl
theorem run_4_3_3 : runK 4 3 3 = true := by kernel_rfl
theorem run_5_2_0 : runK 5 2 0 = true := by kernel_rfl
theorem run_5_4_0 : runK 5 4 0 = true := by kernel_rfl
theorem run_6_0_0 : runK 6 0 0 = true := by kernel_rfl
theorem run_6_1_0 : runK 6 1 0 = true := by kernel_rfl
theorem run_6_2_5 : runK 6 2 5 = true := by kernel_rfl
theorem run_6_4_3 : runK 6 4 3 = true := by kernel_rfl
theorem run_6_6_1 : runK 6 6 1 = true := by kernel_rfl
theorem run_7_0_5 : runK 7 0 5 = true := by kernel_rfl
theorem run_7_2_0 : runK 7 2 0 = true := by kernel_rfl
theorem run_7_3_4 : runK 7 3 4 = true := by kernel_rfl
theorem run_7_5_0 : runK 7 5 0 = true := by kernel_rfl
theorem run_7_6_4 : runK 7 6 4 = true := by kernel_rfl
theorem run_8_0_6 : runK 8 0 6 = true := by kernel_rfl
theorem run_8_1_5 : runK 8 1 5 = true := by kernel_rfl
theorem run_8_2_8 : runK 8 2 8 = true := by kernel_rfl
theorem run_8_4_2 : runK 8 4 2 = true := by kernel_rfl
theorem run_8_5_5 : runK 8 5 5 = true := by kernel_rfl
theorem run_8_6_8 : runK 8 6 8 = true := by kernel_rfl
theorem run_8_8_2 : runK 8 8 2 = true := by kernel_rfl
theorem run_9_1_0 : runK 9 1 0 = true := by kernel_rfl
theorem run_9_2_2 : runK 9 2 2 = true := by kernel_rfl
theorem run_9_3_4 : runK 9 3 4 = true := by kernel_rfl
theorem run_9_4_6 : runK 9 4 6 = true := by kernel_rfl
theorem run_9_5_8 : runK 9 5 8 = true := by kernel_rfl
theorem run_9_7_0 : runK 9 7 0 = true := by kernel_rfl
theorem run_9_8_2 : runK 9 8 2 = true := by kernel_rfl
theorem run_9_9_4 : runK 9 9 4 = true := by kernel_rfl
end Go.Proofs.Ytgmkplkonhkecaa
