/-
  BoundLines: some runs, as the kernel works them out.
-/
import Derived.Test.YtjcjnmphneafoaaAwake
namespace Go.Proofs.Ytjcjnmphneafoaa
theorem run_3_0 : runB 3 0 = true := by kernel_rfl
theorem run_7_3 : runB 7 3 = true := by kernel_rfl
theorem run_9_4 : runB 9 4 = true := by kernel_rfl
theorem run_11_4 : runB 11 4 = true := by kernel_rfl
theorem run_12_0 : runB 12 0 = true := by kernel_rfl
theorem run_14_1 : runB 14 1 = true := by kernel_rfl
theorem run_14_9 : runB 14 9 = true := by kernel_rfl
theorem run_16_5 : runB 16 5 = true := by kernel_rfl
theorem run_16_14 : runB 16 14 = true := by kernel_rfl
theorem run_17_6 : runB 17 6 = true := by kernel_rfl
theorem run_19_1 : runB 19 1 = true := by kernel_rfl
theorem run_19_17 : runB 19 17 = true := by kernel_rfl
theorem run_20_5 : runB 20 5 = true := by kernel_rfl
theorem run_21_9 : runB 21 9 = true := by kernel_rfl
theorem run_22_1 : runB 22 1 = true := by kernel_rfl
theorem run_22_13 : runB 22 13 = true := by kernel_rfl
theorem run_23_8 : runB 23 8 = true := by kernel_rfl
theorem run_24_3 : runB 24 3 = true := by kernel_rfl
theorem run_24_16 : runB 24 16 = true := by kernel_rfl
theorem run_25_3 : runB 25 3 = true := by kernel_rfl
theorem run_25_12 : runB 25 12 = true := by kernel_rfl
theorem run_27_10 : runB 27 10 = true := by kernel_rfl
theorem run_27_26 : runB 27 26 = true := by kernel_rfl
theorem run_28_6 : runB 28 6 = true := by kernel_rfl
theorem run_28_22 : runB 28 22 = true := by kernel_rfl
theorem run_29_1 : runB 29 1 = true := by kernel_rfl
theorem run_29_3 : runB 29 3 = true := by kernel_rfl
theorem run_29_19 : runB 29 19 = true := by kernel_rfl
theorem run_30_15 : runB 30 15 = true := by kernel_rfl
end Go.Proofs.Ytjcjnmphneafoaa
