/-
  TableLines: some runs, as the kernel works them out.
-/
import Derived.Test.YtgmkplkonhkecaaAwake
namespace Go.Proofs.Ytgmkplkonhkecaa
theorem run_0_0_0 : runK 0 0 0 = true := by kernel_rfl
theorem run_1_0_0 : runK 1 0 0 = true := by kernel_rfl
theorem run_3_3_0 : runK 3 3 0 = true := by kernel_rfl
theorem run_4_0_2 : runK 4 0 2 = true := by kernel_rfl
theorem run_4_1_3 : runK 4 1 3 = true := by kernel_rfl
theorem run_4_4_0 : runK 4 4 0 = true := by kernel_rfl
theorem run_5_2_2 : runK 5 2 2 = true := by kernel_rfl
theorem run_5_4_2 : runK 5 4 2 = true := by kernel_rfl
theorem run_6_0_2 : runK 6 0 2 = true := by kernel_rfl
theorem run_6_1_2 : runK 6 1 2 = true := by kernel_rfl
theorem run_6_3_0 : runK 6 3 0 = true := by kernel_rfl
theorem run_6_4_5 : runK 6 4 5 = true := by kernel_rfl
theorem run_6_6_3 : runK 6 6 3 = true := by kernel_rfl
theorem run_7_0_7 : runK 7 0 7 = true := by kernel_rfl
theorem run_7_2_2 : runK 7 2 2 = true := by kernel_rfl
theorem run_7_3_6 : runK 7 3 6 = true := by kernel_rfl
theorem run_7_5_2 : runK 7 5 2 = true := by kernel_rfl
theorem run_7_6_6 : runK 7 6 6 = true := by kernel_rfl
theorem run_8_1_7 : runK 8 1 7 = true := by kernel_rfl
theorem run_8_3_1 : runK 8 3 1 = true := by kernel_rfl
theorem run_8_4_4 : runK 8 4 4 = true := by kernel_rfl
theorem run_8_5_7 : runK 8 5 7 = true := by kernel_rfl
theorem run_8_7_1 : runK 8 7 1 = true := by kernel_rfl
theorem run_8_8_4 : runK 8 8 4 = true := by kernel_rfl
theorem run_9_0_0 : runK 9 0 0 = true := by kernel_rfl
theorem run_9_1_2 : runK 9 1 2 = true := by kernel_rfl
theorem run_9_2_4 : runK 9 2 4 = true := by kernel_rfl
theorem run_9_3_6 : runK 9 3 6 = true := by kernel_rfl
theorem run_9_4_8 : runK 9 4 8 = true := by kernel_rfl
theorem run_9_6_0 : runK 9 6 0 = true := by kernel_rfl
theorem run_9_7_2 : runK 9 7 2 = true := by kernel_rfl
theorem run_9_8_4 : runK 9 8 4 = true := by kernel_rfl
theorem run_9_9_6 : runK 9 9 6 = true := by kernel_rfl
end Go.Proofs.Ytgmkplkonhkecaa
