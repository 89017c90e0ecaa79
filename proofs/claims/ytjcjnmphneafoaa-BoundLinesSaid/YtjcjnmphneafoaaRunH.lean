/-
  BoundLines: some runs, as the kernel works them out.
-/
import Derived.Test.YtjcjnmphneafoaaAwake
namespace Go.Proofs.Ytjcjnmphneafoaa
theorem run_6_0 : runB 6 0 = true := by kernel_rfl
theorem run_6_4 : runB 6 4 = true := by kernel_rfl
theorem run_10_1 : runB 10 1 = true := by kernel_rfl
theorem run_10_8 : runB 10 8 = true := by kernel_rfl
theorem run_12_8 : runB 12 8 = true := by kernel_rfl
theorem run_13_5 : runB 13 5 = true := by kernel_rfl
theorem run_15_10 : runB 15 10 = true := by kernel_rfl
theorem run_16_1 : runB 16 1 = true := by kernel_rfl
theorem run_16_10 : runB 16 10 = true := by kernel_rfl
theorem run_18_6 : runB 18 6 = true := by kernel_rfl
theorem run_18_16 : runB 18 16 = true := by kernel_rfl
theorem run_19_9 : runB 19 9 = true := by kernel_rfl
theorem run_20_13 : runB 20 13 = true := by kernel_rfl
theorem run_21_2 : runB 21 2 = true := by kernel_rfl
theorem run_21_17 : runB 21 17 = true := by kernel_rfl
theorem run_23_3 : runB 23 3 = true := by kernel_rfl
theorem run_23_19 : runB 23 19 = true := by kernel_rfl
theorem run_24_11 : runB 24 11 = true := by kernel_rfl
theorem run_25_0 : runB 25 0 = true := by kernel_rfl
theorem run_25_4 : runB 25 4 = true := by kernel_rfl
theorem run_25_20 : runB 25 20 = true := by kernel_rfl
theorem run_26_12 : runB 26 12 = true := by kernel_rfl
theorem run_27_7 : runB 27 7 = true := by kernel_rfl
theorem run_27_23 : runB 27 23 = true := by kernel_rfl
theorem run_28_19 : runB 28 19 = true := by kernel_rfl
theorem run_29_11 : runB 29 11 = true := by kernel_rfl
theorem run_29_27 : runB 29 27 = true := by kernel_rfl
theorem run_30_7 : runB 30 7 = true := by kernel_rfl
theorem run_30_23 : runB 30 23 = true := by kernel_rfl
end Go.Proofs.Ytjcjnmphneafoaa
