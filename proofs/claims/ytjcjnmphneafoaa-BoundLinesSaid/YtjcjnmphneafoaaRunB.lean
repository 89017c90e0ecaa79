/-
  BoundLines: some runs, as the kernel works them out.
-/
import Derived.Test.YtjcjnmphneafoaaAwake
namespace Go.Proofs.Ytjcjnmphneafoaa
theorem run_5_1 : runB 5 1 = true := by kernel_rfl
theorem run_6_3 : runB 6 3 = true := by kernel_rfl
theorem run_9_8 : runB 9 8 = true := by kernel_rfl
theorem run_11_8 : runB 11 8 = true := by kernel_rfl
theorem run_12_4 : runB 12 4 = true := by kernel_rfl
theorem run_14_3 : runB 14 3 = true := by kernel_rfl
theorem run_14_11 : runB 14 11 = true := by kernel_rfl
theorem run_15_2 : runB 15 2 = true := by kernel_rfl
theorem run_17_12 : runB 17 12 = true := by kernel_rfl
theorem run_18_0 : runB 18 0 = true := by kernel_rfl
theorem run_18_10 : runB 18 10 = true := by kernel_rfl
theorem run_19_3 : runB 19 3 = true := by kernel_rfl
theorem run_20_7 : runB 20 7 = true := by kernel_rfl
theorem run_21_11 : runB 21 11 = true := by kernel_rfl
theorem run_22_3 : runB 22 3 = true := by kernel_rfl
theorem run_22_15 : runB 22 15 = true := by kernel_rfl
theorem run_23_10 : runB 23 10 = true := by kernel_rfl
theorem run_24_5 : runB 24 5 = true := by kernel_rfl
theorem run_24_18 : runB 24 18 = true := by kernel_rfl
theorem run_25_14 : runB 25 14 = true := by kernel_rfl
theorem run_26_6 : runB 26 6 = true := by kernel_rfl
theorem run_26_20 : runB 26 20 = true := by kernel_rfl
theorem run_27_1 : runB 27 1 = true := by kernel_rfl
theorem run_27_17 : runB 27 17 = true := by kernel_rfl
theorem run_28_13 : runB 28 13 = true := by kernel_rfl
theorem run_29_5 : runB 29 5 = true := by kernel_rfl
theorem run_29_21 : runB 29 21 = true := by kernel_rfl
theorem run_30_1 : runB 30 1 = true := by kernel_rfl
theorem run_30_17 : runB 30 17 = true := by kernel_rfl
end Go.Proofs.Ytjcjnmphneafoaa
