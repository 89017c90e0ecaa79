/-
  BoundLines: some runs, as the kernel works them out.
-/
import Derived.Test.YtjcjnmphneafoaaAwake
namespace Go.Proofs.Ytjcjnmphneafoaa
theorem run_1_0 : runB 1 0 = true := by kernel_rfl
theorem run_2_0 : runB 2 0 = true := by kernel_rfl
theorem run_7_6 : runB 7 6 = true := by kernel_rfl
theorem run_10_0 : runB 10 0 = true := by kernel_rfl
theorem run_10_7 : runB 10 7 = true := by kernel_rfl
theorem run_12_7 : runB 12 7 = true := by kernel_rfl
theorem run_13_4 : runB 13 4 = true := by kernel_rfl
theorem run_15_9 : runB 15 9 = true := by kernel_rfl
theorem run_16_0 : runB 16 0 = true := by kernel_rfl
theorem run_16_9 : runB 16 9 = true := by kernel_rfl
theorem run_18_5 : runB 18 5 = true := by kernel_rfl
theorem run_18_15 : runB 18 15 = true := by kernel_rfl
theorem run_19_8 : runB 19 8 = true := by kernel_rfl
theorem run_20_12 : runB 20 12 = true := by kernel_rfl
theorem run_21_16 : runB 21 16 = true := by kernel_rfl
theorem run_22_8 : runB 22 8 = true := by kernel_rfl
theorem run_22_20 : runB 22 20 = true := by kernel_rfl
theorem run_23_15 : runB 23 15 = true := by kernel_rfl
theorem run_24_10 : runB 24 10 = true := by kernel_rfl
theorem run_24_23 : runB 24 23 = true := by kernel_rfl
theorem run_25_19 : runB 25 19 = true := by kernel_rfl
theorem run_26_11 : runB 26 11 = true := by kernel_rfl
theorem run_26_25 : runB 26 25 = true := by kernel_rfl
theorem run_27_6 : runB 27 6 = true := by kernel_rfl
theorem run_27_22 : runB 27 22 = true := by kernel_rfl
theorem run_28_18 : runB 28 18 = true := by kernel_rfl
theorem run_29_10 : runB 29 10 = true := by kernel_rfl
theorem run_29_26 : runB 29 26 = true := by kernel_rfl
theorem run_30_6 : runB 30 6 = true := by kernel_rfl
theorem run_30_22 : runB 30 22 = true := by kernel_rfl
end Go.Proofs.Ytjcjnmphneafoaa
