/-
  BoundLines: some runs, as the kernel works them out.
-/
import Derived.Test.YtjcjnmphneafoaaAwake
namespace Go.Proofs.Ytjcjnmphneafoaa
theorem run_2_1 : runB 2 1 = true := by kernel_rfl
theorem run_8_2 : runB 8 2 = true := by kernel_rfl
theorem run_8_7 : runB 8 7 = true := by kernel_rfl
theorem run_10_5 : runB 10 5 = true := by kernel_rfl
theorem run_13_12 : runB 13 12 = true := by kernel_rfl
theorem run_14_0 : runB 14 0 = true := by kernel_rfl
theorem run_14_8 : runB 14 8 = true := by kernel_rfl
theorem run_16_4 : runB 16 4 = true := by kernel_rfl
theorem run_16_13 : runB 16 13 = true := by kernel_rfl
theorem run_17_5 : runB 17 5 = true := by kernel_rfl
theorem run_19_0 : runB 19 0 = true := by kernel_rfl
theorem run_19_16 : runB 19 16 = true := by kernel_rfl
theorem run_20_4 : runB 20 4 = true := by kernel_rfl
theorem run_21_8 : runB 21 8 = true := by kernel_rfl
theorem run_22_0 : runB 22 0 = true := by kernel_rfl
theorem run_22_12 : runB 22 12 = true := by kernel_rfl
theorem run_23_7 : runB 23 7 = true := by kernel_rfl
theorem run_24_2 : runB 24 2 = true := by kernel_rfl
theorem run_24_15 : runB 24 15 = true := by kernel_rfl
theorem run_25_2 : runB 25 2 = true := by kernel_rfl
theorem run_25_11 : runB 25 11 = true := by kernel_rfl
theorem run_27_9 : runB 27 9 = true := by kernel_rfl
theorem run_27_25 : runB 27 25 = true := by kernel_rfl
theorem run_28_5 : runB 28 5 = true := by kernel_rfl
theorem run_28_21 : runB 28 21 = true := by kernel_rfl
theorem run_29_0 : runB 29 0 = true := by kernel_rfl
theorem run_29_2 : runB 29 2 = true := by kernel_rfl
theorem run_29_18 : runB 29 18 = true := by kernel_rfl
theorem run_30_14 : runB 30 14 = true := by kernel_rfl
end Go.Proofs.Ytjcjnmphneafoaa
