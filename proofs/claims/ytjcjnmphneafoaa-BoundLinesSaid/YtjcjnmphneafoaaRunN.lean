/-
  BoundLines: some runs, as the kernel works them out.
-/
import Derived.Test.YtjcjnmphneafoaaAwake
namespace Go.Proofs.Ytjcjnmphneafoaa
theorem run_5_4 : runB 5 4 = true := by kernel_rfl
theorem run_7_0 : runB 7 0 = true := by kernel_rfl
theorem run_10_6 : runB 10 6 = true := by kernel_rfl
theorem run_11_0 : runB 11 0 = true := by kernel_rfl
theorem run_11_1 : runB 11 1 = true := by kernel_rfl
theorem run_13_9 : runB 13 9 = true := by kernel_rfl
theorem run_15_14 : runB 15 14 = true := by kernel_rfl
theorem run_16_3 : runB 16 3 = true := by kernel_rfl
theorem run_16_12 : runB 16 12 = true := by kernel_rfl
theorem run_17_4 : runB 17 4 = true := by kernel_rfl
theorem run_19_15 : runB 19 15 = true := by kernel_rfl
theorem run_20_0 : runB 20 0 = true := by kernel_rfl
theorem run_20_3 : runB 20 3 = true := by kernel_rfl
theorem run_20_19 : runB 20 19 = true := by kernel_rfl
theorem run_21_5 : runB 21 5 = true := by kernel_rfl
theorem run_23_6 : runB 23 6 = true := by kernel_rfl
theorem run_23_22 : runB 23 22 = true := by kernel_rfl
theorem run_24_1 : runB 24 1 = true := by kernel_rfl
theorem run_24_14 : runB 24 14 = true := by kernel_rfl
theorem run_25_10 : runB 25 10 = true := by kernel_rfl
theorem run_26_4 : runB 26 4 = true := by kernel_rfl
theorem run_26_18 : runB 26 18 = true := by kernel_rfl
theorem run_27_15 : runB 27 15 = true := by kernel_rfl
theorem run_28_4 : runB 28 4 = true := by kernel_rfl
theorem run_28_11 : runB 28 11 = true := by kernel_rfl
theorem run_28_27 : runB 28 27 = true := by kernel_rfl
theorem run_29_17 : runB 29 17 = true := by kernel_rfl
theorem run_30_13 : runB 30 13 = true := by kernel_rfl
theorem run_30_29 : runB 30 29 = true := by kernel_rfl
end Go.Proofs.Ytjcjnmphneafoaa
