/-
  TableAlike: some runs, as the kernel works them out.
-/
import Derived.Test.YthfefeekfidfoaaAwake
namespace Go.Proofs.Ythfefeekfidfoaa
theorem runB_ok : runB = true := by kernel_rfl
theorem run_0_0_f : runQ 0 0 false [] = true := by kernel_rfl
theorem run_0_1_f : runQ 0 1 false [] = true := by kernel_rfl
theorem run_0_2_f : runQ 0 2 false [] = true := by kernel_rfl
theorem run_0_3_f : runQ 0 3 false [] = true := by kernel_rfl
theorem run_0_4_f : runQ 0 4 false [] = true := by kernel_rfl
theorem run_0_5_f : runQ 0 5 false [] = true := by kernel_rfl
theorem run_1_0_f : runQ 1 0 false [] = true := by kernel_rfl
theorem run_1_1_f : runQ 1 1 false [] = true := by kernel_rfl
theorem run_1_1_t1 : runQ 1 1 true (eqs 1 1) = true := by kernel_rfl
theorem run_1_2_t : runQ 1 2 true [] = true := by kernel_rfl
theorem run_1_3_t : runQ 1 3 true [] = true := by kernel_rfl
theorem run_1_4_t : runQ 1 4 true [] = true := by kernel_rfl
theorem run_1_5_t : runQ 1 5 true [] = true := by kernel_rfl
theorem run_2_0_t : runQ 2 0 true [] = true := by kernel_rfl
theorem run_2_1_t : runQ 2 1 true [] = true := by kernel_rfl
theorem run_2_2_t0 : runQ 2 2 true (eqs 2 0) = true := by kernel_rfl
theorem run_2_2_t2 : runQ 2 2 true (eqs 2 2) = true := by kernel_rfl
theorem run_2_3_t : runQ 2 3 true [] = true := by kernel_rfl
theorem run_2_4_t : runQ 2 4 true [] = true := by kernel_rfl
theorem run_2_5_t : runQ 2 5 true [] = true := by kernel_rfl
theorem run_3_0_t : runQ 3 0 true [] = true := by kernel_rfl
theorem run_3_1_t : runQ 3 1 true [] = true := by kernel_rfl
theorem run_3_2_t : runQ 3 2 true [] = true := by kernel_rfl
theorem run_3_3_t0 : runQ 3 3 true (eqs 3 0) = true := by kernel_rfl
theorem run_3_3_t2 : runQ 3 3 true (eqs 3 2) = true := by kernel_rfl
theorem run_3_4_f : runQ 3 4 false [] = true := by kernel_rfl
theorem run_3_5_f : runQ 3 5 false [] = true := by kernel_rfl
theorem run_4_0_f : runQ 4 0 false [] = true := by kernel_rfl
theorem run_4_1_f : runQ 4 1 false [] = true := by kernel_rfl
theorem run_4_2_f : runQ 4 2 false [] = true := by kernel_rfl
theorem run_4_3_f : runQ 4 3 false [] = true := by kernel_rfl
theorem run_4_4_f : runQ 4 4 false [] = true := by kernel_rfl
theorem run_4_4_t1 : runQ 4 4 true (eqs 4 1) = true := by kernel_rfl
theorem run_4_4_t3 : runQ 4 4 true (eqs 4 3) = true := by kernel_rfl
theorem run_4_5_f : runQ 4 5 false [] = true := by kernel_rfl
theorem run_5_0_f : runQ 5 0 false [] = true := by kernel_rfl
theorem run_5_1_f : runQ 5 1 false [] = true := by kernel_rfl
theorem run_5_2_f : runQ 5 2 false [] = true := by kernel_rfl
theorem run_5_3_f : runQ 5 3 false [] = true := by kernel_rfl
theorem run_5_4_f : runQ 5 4 false [] = true := by kernel_rfl
theorem run_5_5_f : runQ 5 5 false [] = true := by kernel_rfl
theorem run_5_5_t1 : runQ 5 5 true (eqs 5 1) = true := by kernel_rfl
theorem run_5_5_t3 : runQ 5 5 true (eqs 5 3) = true := by kernel_rfl
theorem run_5_5_t5 : runQ 5 5 true (eqs 5 5) = true := by kernel_rfl
end Go.Proofs.Ythfefeekfidfoaa
