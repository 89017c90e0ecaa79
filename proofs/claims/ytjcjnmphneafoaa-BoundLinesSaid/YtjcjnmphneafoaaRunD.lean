/-
  BoundLines: some runs, as the kernel works them out.
-/
import Derived.Test.YtjcjnmphneafoaaAwake
namespace Go.Proofs.Ytjcjnmphneafoaa
theorem run_4_1 : runB 4 1 = true := by kernel_rfl
theorem run_8_1 : runB 8 1 = true := by kernel_rfl
theorem run_8_6 : runB 8 6 = true := by kernel_rfl
theorem run_11_10 : runB 11 10 = true := by kernel_rfl
theorem run_12_6 : runB 12 6 = true := by kernel_rfl
theorem run_14_5 : runB 14 5 = true := by kernel_rfl
theorem run_14_13 : runB 14 13 = true := by kernel_rfl
theorem run_15_4 : runB 15 4 = true := by kernel_rfl
theorem run_17_14 : runB 17 14 = true := by kernel_rfl
theorem run_18_2 : runB 18 2 = true := by kernel_rfl
theorem run_18_12 : runB 18 12 = true := by kernel_rfl
theorem run_19_5 : runB 19 5 = true := by kernel_rfl
theorem run_20_9 : runB 20 9 = true := by kernel_rfl
theorem run_21_13 : runB 21 13 = true := by kernel_rfl
theorem run_22_5 : runB 22 5 = true := by kernel_rfl
theorem run_22_17 : runB 22 17 = true := by kernel_rfl
theorem run_23_12 : runB 23 12 = true := by kernel_rfl
theorem run_24_7 : runB 24 7 = true := by kernel_rfl
theorem run_24_20 : runB 24 20 = true := by kernel_rfl
theorem run_25_16 : runB 25 16 = true := by kernel_rfl
theorem run_26_8 : runB 26 8 = true := by kernel_rfl
theorem run_26_22 : runB 26 22 = true := by kernel_rfl
theorem run_27_3 : runB 27 3 = true := by kernel_rfl
theorem run_27_19 : runB 27 19 = true := by kernel_rfl
theorem run_28_15 : runB 28 15 = true := by kernel_rfl
theorem run_29_7 : runB 29 7 = true := by kernel_rfl
theorem run_29_23 : runB 29 23 = true := by kernel_rfl
theorem run_30_3 : runB 30 3 = true := by kernel_rfl
theorem run_30_19 : runB 30 19 = true := by kernel_rfl
end Go.Proofs.Ytjcjnmphneafoaa
