/-
  BoundLines: some runs, as the kernel works them out.
-/
import Derived.Test.YtjcjnmphneafoaaAwake
namespace Go.Proofs.Ytjcjnmphneafoaa
theorem run_4_2 : runB 4 2 = true := by kernel_rfl
theorem run_7_1 : runB 7 1 = true := by kernel_rfl
theorem run_9_2 : runB 9 2 = true := by kernel_rfl
theorem run_11_2 : runB 11 2 = true := by kernel_rfl
theorem run_13_0 : runB 13 0 = true := by kernel_rfl
theorem run_13_10 : runB 13 10 = true := by kernel_rfl
theorem run_14_6 : runB 14 6 = true := by kernel_rfl
theorem run_15_5 : runB 15 5 = true := by kernel_rfl
theorem run_17_15 : runB 17 15 = true := by kernel_rfl
theorem run_18_3 : runB 18 3 = true := by kernel_rfl
theorem run_18_13 : runB 18 13 = true := by kernel_rfl
theorem run_19_6 : runB 19 6 = true := by kernel_rfl
theorem run_20_10 : runB 20 10 = true := by kernel_rfl
theorem run_21_14 : runB 21 14 = true := by kernel_rfl
theorem run_22_6 : runB 22 6 = true := by kernel_rfl
theorem run_22_18 : runB 22 18 = true := by kernel_rfl
theorem run_23_13 : runB 23 13 = true := by kernel_rfl
theorem run_24_8 : runB 24 8 = true := by kernel_rfl
theorem run_24_21 : runB 24 21 = true := by kernel_rfl
theorem run_25_17 : runB 25 17 = true := by kernel_rfl
theorem run_26_9 : runB 26 9 = true := by kernel_rfl
theorem run_26_23 : runB 26 23 = true := by kernel_rfl
theorem run_27_4 : runB 27 4 = true := by kernel_rfl
theorem run_27_20 : runB 27 20 = true := by kernel_rfl
theorem run_28_16 : runB 28 16 = true := by kernel_rfl
theorem run_29_8 : runB 29 8 = true := by kernel_rfl
theorem run_29_24 : runB 29 24 = true := by kernel_rfl
theorem run_30_4 : runB 30 4 = true := by kernel_rfl
theorem run_30_20 : runB 30 20 = true := by kernel_rfl
end Go.Proofs.Ytjcjnmphneafoaa
