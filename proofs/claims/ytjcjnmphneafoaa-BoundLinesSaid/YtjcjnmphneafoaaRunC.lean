/-
  BoundLines: some runs, as the kernel works them out.
-/
import Derived.Test.YtjcjnmphneafoaaAwake
namespace Go.Proofs.Ytjcjnmphneafoaa
theorem run_4_0 : runB 4 0 = true := by kernel_rfl
theorem run_8_0 : runB 8 0 = true := by kernel_rfl
theorem run_8_5 : runB 8 5 = true := by kernel_rfl
theorem run_11_9 : runB 11 9 = true := by kernel_rfl
theorem run_12_5 : runB 12 5 = true := by kernel_rfl
theorem run_14_4 : runB 14 4 = true := by kernel_rfl
theorem run_14_12 : runB 14 12 = true := by kernel_rfl
theorem run_15_3 : runB 15 3 = true := by kernel_rfl
theorem run_17_13 : runB 17 13 = true := by kernel_rfl
theorem run_18_1 : runB 18 1 = true := by kernel_rfl
theorem run_18_11 : runB 18 11 = true := by kernel_rfl
theorem run_19_4 : runB 19 4 = true := by kernel_rfl
theorem run_20_8 : runB 20 8 = true := by kernel_rfl
theorem run_21_12 : runB 21 12 = true := by kernel_rfl
theorem run_22_4 : runB 22 4 = true := by kernel_rfl
theorem run_22_16 : runB 22 16 = true := by kernel_rfl
theorem run_23_11 : runB 23 11 = true := by kernel_rfl
theorem run_24_6 : runB 24 6 = true := by kernel_rfl
theorem run_24_19 : runB 24 19 = true := by kernel_rfl
theorem run_25_15 : runB 25 15 = true := by kernel_rfl
theorem run_26_7 : runB 26 7 = true := by kernel_rfl
theorem run_26_21 : runB 26 21 = true := by kernel_rfl
theorem run_27_2 : runB 27 2 = true := by kernel_rfl
theorem run_27_18 : runB 27 18 = true := by kernel_rfl
theorem run_28_14 : runB 28 14 = true := by kernel_rfl
theorem run_29_6 : runB 29 6 = true := by kernel_rfl
theorem run_29_22 : runB 29 22 = true := by kernel_rfl
theorem run_30_2 : runB 30 2 = true := by kernel_rfl
theorem run_30_18 : runB 30 18 = true := by kernel_rfl
end Go.Proofs.Ytjcjnmphneafoaa
