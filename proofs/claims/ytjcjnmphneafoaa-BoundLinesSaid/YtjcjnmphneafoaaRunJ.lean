/-
  BoundLines: some runs, as the kernel works them out.
-/
import Derived.Test.YtjcjnmphneafoaaAwake
namespace Go.Proofs.Ytjcjnmphneafoaa
theorem run_3_1 : runB 3 1 = true := by kernel_rfl
theorem run_7_4 : runB 7 4 = true := by kernel_rfl
theorem run_9_5 : runB 9 5 = true := by kernel_rfl
theorem run_11_5 : runB 11 5 = true := by kernel_rfl
theorem run_12_1 : runB 12 1 = true := by kernel_rfl
theorem run_13_2 : runB 13 2 = true := by kernel_rfl
theorem run_15_7 : runB 15 7 = true := by kernel_rfl
theorem run_16_7 : runB 16 7 = true := by kernel_rfl
theorem run_17_0 : runB 17 0 = true := by kernel_rfl
theorem run_17_8 : runB 17 8 = true := by kernel_rfl
theorem run_18_8 : runB 18 8 = true := by kernel_rfl
theorem run_19_11 : runB 19 11 = true := by kernel_rfl
theorem run_20_15 : runB 20 15 = true := by kernel_rfl
theorem run_21_19 : runB 21 19 = true := by kernel_rfl
theorem run_22_9 : runB 22 9 = true := by kernel_rfl
theorem run_22_21 : runB 22 21 = true := by kernel_rfl
theorem run_23_0 : runB 23 0 = true := by kernel_rfl
theorem run_23_16 : runB 23 16 = true := by kernel_rfl
theorem run_25_6 : runB 25 6 = true := by kernel_rfl
theorem run_25_22 : runB 25 22 = true := by kernel_rfl
theorem run_26_0 : runB 26 0 = true := by kernel_rfl
theorem run_26_14 : runB 26 14 = true := by kernel_rfl
theorem run_27_11 : runB 27 11 = true := by kernel_rfl
theorem run_28_0 : runB 28 0 = true := by kernel_rfl
theorem run_28_7 : runB 28 7 = true := by kernel_rfl
theorem run_28_23 : runB 28 23 = true := by kernel_rfl
theorem run_29_13 : runB 29 13 = true := by kernel_rfl
theorem run_30_9 : runB 30 9 = true := by kernel_rfl
theorem run_30_25 : runB 30 25 = true := by kernel_rfl
end Go.Proofs.Ytjcjnmphneafoaa
