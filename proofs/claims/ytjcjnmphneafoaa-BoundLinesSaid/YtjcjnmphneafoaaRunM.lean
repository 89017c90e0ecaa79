/-
  BoundLines: some runs, as the kernel works them out.
-/
import Derived.Test.YtjcjnmphneafoaaAwake
namespace Go.Proofs.Ytjcjnmphneafoaa
theorem run_3_2 : runB 3 2 = true := by kernel_rfl
theorem run_7_5 : runB 7 5 = true := by kernel_rfl
theorem run_9_6 : runB 9 6 = true := by kernel_rfl
theorem run_11_6 : runB 11 6 = true := by kernel_rfl
theorem run_12_2 : runB 12 2 = true := by kernel_rfl
theorem run_13_3 : runB 13 3 = true := by kernel_rfl
theorem run_15_8 : runB 15 8 = true := by kernel_rfl
theorem run_16_8 : runB 16 8 = true := by kernel_rfl
theorem run_17_1 : runB 17 1 = true := by kernel_rfl
theorem run_17_9 : runB 17 9 = true := by kernel_rfl
theorem run_18_9 : runB 18 9 = true := by kernel_rfl
theorem run_19_12 : runB 19 12 = true := by kernel_rfl
theorem run_20_16 : runB 20 16 = true := by kernel_rfl
theorem run_21_4 : runB 21 4 = true := by kernel_rfl
theorem run_21_20 : runB 21 20 = true := by kernel_rfl
theorem run_23_5 : runB 23 5 = true := by kernel_rfl
theorem run_23_21 : runB 23 21 = true := by kernel_rfl
theorem run_24_0 : runB 24 0 = true := by kernel_rfl
theorem run_24_13 : runB 24 13 = true := by kernel_rfl
theorem run_25_9 : runB 25 9 = true := by kernel_rfl
theorem run_26_3 : runB 26 3 = true := by kernel_rfl
theorem run_26_17 : runB 26 17 = true := by kernel_rfl
theorem run_27_14 : runB 27 14 = true := by kernel_rfl
theorem run_28_3 : runB 28 3 = true := by kernel_rfl
theorem run_28_10 : runB 28 10 = true := by kernel_rfl
theorem run_28_26 : runB 28 26 = true := by kernel_rfl
theorem run_29_16 : runB 29 16 = true := by kernel_rfl
theorem run_30_12 : runB 30 12 = true := by kernel_rfl
theorem run_30_28 : runB 30 28 = true := by kernel_rfl
end Go.Proofs.Ytjcjnmphneafoaa
