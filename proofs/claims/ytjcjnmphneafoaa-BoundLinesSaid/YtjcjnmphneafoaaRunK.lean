/-
  BoundLines: some runs, as the kernel works them out.
-/
import Derived.Test.YtjcjnmphneafoaaAwake
namespace Go.Proofs.Ytjcjnmphneafoaa
theorem run_5_2 : runB 5 2 = true := by kernel_rfl
theorem run_8_3 : runB 8 3 = true := by kernel_rfl
theorem run_9_0 : runB 9 0 = true := by kernel_rfl
theorem run_10_3 : runB 10 3 = true := by kernel_rfl
theorem run_12_10 : runB 12 10 = true := by kernel_rfl
theorem run_13_7 : runB 13 7 = true := by kernel_rfl
theorem run_15_0 : runB 15 0 = true := by kernel_rfl
theorem run_15_12 : runB 15 12 = true := by kernel_rfl
theorem run_17_2 : runB 17 2 = true := by kernel_rfl
theorem run_17_10 : runB 17 10 = true := by kernel_rfl
theorem run_19_13 : runB 19 13 = true := by kernel_rfl
theorem run_20_1 : runB 20 1 = true := by kernel_rfl
theorem run_20_17 : runB 20 17 = true := by kernel_rfl
theorem run_21_0 : runB 21 0 = true := by kernel_rfl
theorem run_21_6 : runB 21 6 = true := by kernel_rfl
theorem run_22_10 : runB 22 10 = true := by kernel_rfl
theorem run_23_1 : runB 23 1 = true := by kernel_rfl
theorem run_23_17 : runB 23 17 = true := by kernel_rfl
theorem run_25_7 : runB 25 7 = true := by kernel_rfl
theorem run_25_23 : runB 25 23 = true := by kernel_rfl
theorem run_26_1 : runB 26 1 = true := by kernel_rfl
theorem run_26_15 : runB 26 15 = true := by kernel_rfl
theorem run_27_12 : runB 27 12 = true := by kernel_rfl
theorem run_28_1 : runB 28 1 = true := by kernel_rfl
theorem run_28_8 : runB 28 8 = true := by kernel_rfl
theorem run_28_24 : runB 28 24 = true := by kernel_rfl
theorem run_29_14 : runB 29 14 = true := by kernel_rfl
theorem run_30_10 : runB 30 10 = true := by kernel_rfl
theorem run_30_26 : runB 30 26 = true := by kernel_rfl
end Go.Proofs.Ytjcjnmphneafoaa
