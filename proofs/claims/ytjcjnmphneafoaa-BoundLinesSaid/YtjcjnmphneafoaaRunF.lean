/-
  BoundLines: some runs, as the kernel works them out.
-/
import Derived.Test.YtjcjnmphneafoaaAwake
namespace Go.Proofs.Ytjcjnmphneafoaa
theorem run_4_3 : runB 4 3 = true := by kernel_rfl
theorem run_7_2 : runB 7 2 = true := by kernel_rfl
theorem run_9_3 : runB 9 3 = true := by kernel_rfl
theorem run_11_3 : runB 11 3 = true := by kernel_rfl
theorem run_13_1 : runB 13 1 = true := by kernel_rfl
theorem run_13_11 : runB 13 11 = true := by kernel_rfl
theorem run_14_7 : runB 14 7 = true := by kernel_rfl
theorem run_15_6 : runB 15 6 = true := by kernel_rfl
theorem run_17_16 : runB 17 16 = true := by kernel_rfl
theorem run_18_4 : runB 18 4 = true := by kernel_rfl
theorem run_18_14 : runB 18 14 = true := by kernel_rfl
theorem run_19_7 : runB 19 7 = true := by kernel_rfl
theorem run_20_11 : runB 20 11 = true := by kernel_rfl
theorem run_21_15 : runB 21 15 = true := by kernel_rfl
theorem run_22_7 : runB 22 7 = true := by kernel_rfl
theorem run_22_19 : runB 22 19 = true := by kernel_rfl
theorem run_23_14 : runB 23 14 = true := by kernel_rfl
theorem run_24_9 : runB 24 9 = true := by kernel_rfl
theorem run_24_22 : runB 24 22 = true := by kernel_rfl
theorem run_25_18 : runB 25 18 = true := by kernel_rfl
theorem run_26_10 : runB 26 10 = true := by kernel_rfl
theorem run_26_24 : runB 26 24 = true := by kernel_rfl
theorem run_27_5 : runB 27 5 = true := by kernel_rfl
theorem run_27_21 : runB 27 21 = true := by kernel_rfl
theorem run_28_17 : runB 28 17 = true := by kernel_rfl
theorem run_29_9 : runB 29 9 = true := by kernel_rfl
theorem run_29_25 : runB 29 25 = true := by kernel_rfl
theorem run_30_5 : runB 30 5 = true := by kernel_rfl
theorem run_30_21 : runB 30 21 = true := by kernel_rfl
end Go.Proofs.Ytjcjnmphneafoaa
