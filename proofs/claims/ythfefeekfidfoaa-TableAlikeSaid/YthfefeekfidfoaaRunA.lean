/-
  TableAlike: some runs, as the kernel works them out.
-/
import Derived.Test.YthfefeekfidfoaaAwake
namespace Go.Proofs.Ythfefeekfidfoaa
theorem runA_ok : runA = true := by kernel_rfl
theorem runC_ok : runC = true := by kernel_rfl
theorem run_0_0_t0 : runQ 0 0 true (eqs 0 0) = true := by kernel_rfl
theorem run_0_1_t : runQ 0 1 true [] = true := by kernel_rfl
theorem run_0_2_t : runQ 0 2 true [] = true := by kernel_rfl
theorem run_0_3_t : runQ 0 3 true [] = true := by kernel_rfl
theorem run_0_4_t : runQ 0 4 true [] = true := by kernel_rfl
theorem run_0_5_t : runQ 0 5 true [] = true := by kernel_rfl
theorem run_1_0_t : runQ 1 0 true [] = true := by kernel_rfl
theorem run_1_1_t0 : runQ 1 1 true (eqs 1 0) = true := by kernel_rfl
theorem run_1_2_f : runQ 1 2 false [] = true := by kernel_rfl
theorem run_1_3_f : runQ 1 3 false [] = true := by kernel_rfl
theorem run_1_4_f : runQ 1 4 false [] = true := by kernel_rfl
theorem run_1_5_f : runQ 1 5 false [] = true := by kernel_rfl
theorem run_2_0_f : runQ 2 0 false [] = true := by kernel_rfl
theorem run_2_1_f : runQ 2 1 false [] = true := by kernel_rfl
theorem run_2_2_f : runQ 2 2 false [] = true := by kernel_rfl
theorem run_2_2_t1 : runQ 2 2 true (eqs 2 1) = true := by kernel_rfl
theorem run_2_3_f : runQ 2 3 false [] = true := by kernel_rfl
theorem run_2_4_f : runQ 2 4 false [] = true := by kernel_rfl
theorem run_2_5_f : runQ 2 5 false [] = true := by kernel_rfl
theorem run_3_0_f : runQ 3 0 false [] = true := by kernel_rfl
theorem run_3_1_f : runQ 3 1 false [] = true := by kernel_rfl
theorem run_3_2_f : runQ 3 2 false [] = true := by kernel_rfl
theorem run_3_3_f : runQ 3 3 false [] = true := by kernel_rfl
theorem run_3_3_t1 : runQ 3 3 true (eqs 3 1) = true := by kernel_rfl
theorem run_3_3_t3 : runQ 3 3 true (eqs 3 3) = true := by kernel_rfl
theorem run_3_4_t : runQ 3 4 true [] = true := by kernel_rfl
theorem run_3_5_t : runQ 3 5 true [] = true := by kernel_rfl
theorem run_4_0_t : runQ 4 0 true [] = true := by kernel_rfl
theorem run_4_1_t : runQ 4 1 true [] = true := by kernel_rfl
theorem run_4_2_t : runQ 4 2 true [] = true := by kernel_rfl
theorem run_4_3_t : runQ 4 3 true [] = true := by kernel_rfl
theorem run_4_4_t0 : runQ 4 4 true (eqs 4 0) = true := by kernel_rfl
theorem run_4_4_t2 : runQ 4 4 true (eqs 4 2) = true := by kernel_rfl
theorem run_4_4_t4 : runQ 4 4 true (eqs 4 4) = true := by kernel_rfl
theorem run_4_5_t : runQ 4 5 true [] = true := by kernel_rfl
theorem run_5_0_t : runQ 5 0 true [] = true := by kernel_rfl
theorem run_5_1_t : runQ 5 1 true [] = true := by kernel_rfl
theorem run_5_2_t : runQ 5 2 true [] = true := by kernel_rfl
theorem run_5_3_t : runQ 5 3 true [] = true := by kernel_rfl
theorem run_5_4_t : runQ 5 4 true [] = true := by kernel_rfl
theorem run_5_5_t0 : runQ 5 5 true (eqs 5 0) = true := by kernel_rfl
theorem run_5_5_t2 : runQ 5 5 true (eqs 5 2) = true := by kernel_rfl
theorem run_5_5_t4 : runQ 5 5 true (eqs 5 4) = true := by kernel_rfl
end Go.Proofs.Ythfefeekfidfoaa
