/-
  BoundLines: some runs, as the kernel works them out.
-/
import Derived.Test.YtjcjnmphneafoaaAwake
namespace Go.Proofs.Ytjcjnmphneafoaa
theorem none_run : run0 = true := by kernel_rfl
theorem many_run : run1 = true := by kernel_rfl
theorem run_5_0 : runB 5 0 = true := by kernel_rfl
theorem run_6_2 : runB 6 2 = true := by kernel_rfl
theorem run_9_7 : runB 9 7 = true := by kernel_rfl
theorem run_11_7 : runB 11 7 = true := by kernel_rfl
theorem run_12_3 : runB 12 3 = true := by kernel_rfl
theorem run_14_2 : runB 14 2 = true := by kernel_rfl
theorem run_14_10 : runB 14 10 = true := by kernel_rfl
theorem run_16_6 : runB 16 6 = true := by kernel_rfl
theorem run_16_15 : runB 16 15 = true := by kernel_rfl
theorem run_17_7 : runB 17 7 = true := by kernel_rfl
theorem run_19_2 : runB 19 2 = true := by kernel_rfl
theorem run_19_18 : runB 19 18 = true := by kernel_rfl
theorem run_20_6 : runB 20 6 = true := by kernel_rfl
theorem run_21_10 : runB 21 10 = true := by kernel_rfl
theorem run_22_2 : runB 22 2 = true := by kernel_rfl
theorem run_22_14 : runB 22 14 = true := by kernel_rfl
theorem run_23_9 : runB 23 9 = true := by kernel_rfl
theorem run_24_4 : runB 24 4 = true := by kernel_rfl
theorem run_24_17 : runB 24 17 = true := by kernel_rfl
theorem run_25_13 : runB 25 13 = true := by kernel_rfl
theorem run_26_5 : runB 26 5 = true := by kernel_rfl
theorem run_26_19 : runB 26 19 = true := by kernel_rfl
theorem run_27_0 : runB 27 0 = true := by kernel_rfl
theorem run_27_16 : runB 27 16 = true := by kernel_rfl
theorem run_28_12 : runB 28 12 = true := by kernel_rfl
theorem run_29_4 : runB 29 4 = true := by kernel_rfl
theorem run_29_20 : runB 29 20 = true := by kernel_rfl
theorem run_30_0 : runB 30 0 = true := by kernel_rfl
theorem run_30_16 : runB 30 16 = true := by kernel_rfl
end Go.Proofs.Ytjcjnmphneafoaa
