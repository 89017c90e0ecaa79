/-
  BoundLines: some runs, as the kernel works them out.
-/
import Derived.Test.YtjcjnmphneafoaaAwake
namespace Go.Proofs.Ytjcjnmphneafoaa
theorem run_5_3 : runB 5 3 = true := by kernel_rfl
theorem run_8_4 : runB 8 4 = true := by kernel_rfl
theorem run_9_1 : runB 9 1 = true := by kernel_rfl
theorem run_10_4 : runB 10 4 = true := by kernel_rfl
theorem run_12_11 : runB 12 11 = true := by kernel_rfl
theorem run_13_8 : runB 13 8 = true := by kernel_rfl
theorem run_15_1 : runB 15 1 = true := by kernel_rfl
theorem run_15_13 : runB 15 13 = true := by kernel_rfl
theorem run_17_3 : runB 17 3 = true := by kernel_rfl
theorem run_17_11 : runB 17 11 = true := by kernel_rfl
theorem run_19_14 : runB 19 14 = true := by kernel_rfl
theorem run_20_2 : runB 20 2 = true := by kernel_rfl
theorem run_20_18 : runB 20 18 = true := by kernel_rfl
theorem run_21_1 : runB 21 1 = true := by kernel_rfl
theorem run_21_7 : runB 21 7 = true := by kernel_rfl
theorem run_22_11 : runB 22 11 = true := by kernel_rfl
theorem run_23_2 : runB 23 2 = true := by kernel_rfl
theorem run_23_18 : runB 23 18 = true := by kernel_rfl
theorem run_25_8 : runB 25 8 = true := by kernel_rfl
theorem run_25_24 : runB 25 24 = true := by kernel_rfl
theorem run_26_2 : runB 26 2 = true := by kernel_rfl
theorem run_26_16 : runB 26 16 = true := by kernel_rfl
theorem run_27_13 : runB 27 13 = true := by kernel_rfl
theorem run_28_2 : runB 28 2 = true := by kernel_rfl
theorem run_28_9 : runB 28 9 = true := by kernel_rfl
theorem run_28_25 : runB 28 25 = true := by kernel_rfl
theorem run_29_15 : runB 29 15 = true := by kernel_rfl
theorem run_30_11 : runB 30 11 = true := by kernel_rfl
theorem run_30_27 : runB 30 27 = true := by kernel_rfl
end Go.Proofs.Ytjcjnmphneafoaa
