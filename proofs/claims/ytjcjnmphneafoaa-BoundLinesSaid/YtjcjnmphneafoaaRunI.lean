/-
  BoundLines: some runs, as the kernel works them out.
-/
import Derived.Test.YtjcjnmphneafoaaAwake
namespace Go.Proofs.Ytjcjnmphneafoaa
theorem run_6_1 : runB 6 1 = true := by kernel_rfl
theorem run_6_5 : runB 6 5 = true := by kernel_rfl
theorem run_10_2 : runB 10 2 = true := by kernel_rfl
theorem run_10_9 : runB 10 9 = true := by kernel_rfl
theorem run_12_9 : runB 12 9 = true := by kernel_rfl
theorem run_13_6 : runB 13 6 = true := by kernel_rfl
theorem run_15_11 : runB 15 11 = true := by kernel_rfl
theorem run_16_2 : runB 16 2 = true := by kernel_rfl
theorem run_16_11 : runB 16 11 = true := by kernel_rfl
theorem run_18_7 : runB 18 7 = true := by kernel_rfl
theorem run_18_17 : runB 18 17 = true := by kernel_rfl
theorem run_19_10 : runB 19 10 = true := by kernel_rfl
theorem run_20_14 : runB 20 14 = true := by kernel_rfl
theorem run_21_3 : runB 21 3 = true := by kernel_rfl
theorem run_21_18 : runB 21 18 = true := by kernel_rfl
theorem run_23_4 : runB 23 4 = true := by kernel_rfl
theorem run_23_20 : runB 23 20 = true := by kernel_rfl
theorem run_24_12 : runB 24 12 = true := by kernel_rfl
theorem run_25_1 : runB 25 1 = true := by kernel_rfl
theorem run_25_5 : runB 25 5 = true := by kernel_rfl
theorem run_25_21 : runB 25 21 = true := by kernel_rfl
theorem run_26_13 : runB 26 13 = true := by kernel_rfl
theorem run_27_8 : runB 27 8 = true := by kernel_rfl
theorem run_27_24 : runB 27 24 = true := by kernel_rfl
theorem run_28_20 : runB 28 20 = true := by kernel_rfl
theorem run_29_12 : runB 29 12 = true := by kernel_rfl
theorem run_29_28 : runB 29 28 = true := by kernel_rfl
theorem run_30_8 : runB 30 8 = true := by kernel_rfl
theorem run_30_24 : runB 30 24 = true := by kernel_rfl
end Go.Proofs.Ytjcjnmphneafoaa
