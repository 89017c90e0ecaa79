/-
  RulesInits: the sample; what is asked of numbers.
-/
import Derived.Test.YtbjaiijdhboioaaGreatLow
namespace Go.Proofs.YtbjaiijdhboioaaGreat
open Go Go.Proofs.YtbjaiijdhboioaaGreat.Sx
open Go.RowKit
theorem awake_run : isV (.bool true) (funE (tabW [] [] []) 300 6 [] ⟨.nil, 1⟩) = true := by kernel_rfl
def awakeC : Ctr := ⟨6, [], .bool true⟩
theorem awakeC_ok {σ : Nat → Int} : flatV awakeC.v = true ∧ awakeC.args.all flatV = true ∧ ∀ w, Calls Tryz.prog awakeC.f (awakeC.args.map (den σ E00)).toArray w fun r w' => r = .returned (den σ E00 awakeC.v) ∧ Below w.heap.size w w' :=
  ⟨rfl, rfl, fun w => calls_isV tab_plain awake_run rfl rfl w⟩
/-- what is known of a number: where it lies -/
def orq : Nat → Nat → List Orc
  | 0, 0 => [⟨.eql, xN 1, kN (0), .bool false⟩, ⟨.lss, xN 1, kN (-32768), .bool true⟩, ⟨.geq, xN 1, kN (-32768), .bool false⟩, ⟨.leq, xN 1, kN (32767), .bool true⟩, ⟨.gtr, xN 1, kN (32767), .bool false⟩]
  | 0, 1 => [⟨.eql, xN 1, kN (0), .bool false⟩, ⟨.lss, xN 1, kN (-32768), .bool false⟩, ⟨.geq, xN 1, kN (-32768), .bool true⟩, ⟨.leq, xN 1, kN (32767), .bool true⟩, ⟨.gtr, xN 1, kN (32767), .bool false⟩]
  | 0, 2 => [⟨.eql, xN 1, kN (0), .bool true⟩, ⟨.lss, xN 1, kN (-32768), .bool false⟩, ⟨.geq, xN 1, kN (-32768), .bool true⟩, ⟨.leq, xN 1, kN (32767), .bool true⟩, ⟨.gtr, xN 1, kN (32767), .bool false⟩]
  | 0, 3 => [⟨.eql, xN 1, kN (0), .bool false⟩, ⟨.lss, xN 1, kN (-32768), .bool false⟩, ⟨.geq, xN 1, kN (-32768), .bool true⟩, ⟨.leq, xN 1, kN (32767), .bool false⟩, ⟨.gtr, xN 1, kN (32767), .bool true⟩]
  | 1, 0 => [⟨.eql, xN 1, kN (0), .bool false⟩, ⟨.eql, xN 1, kN (1), .bool false⟩, ⟨.lss, xN 1, kN (0), .bool true⟩, ⟨.gtr, xN 1, kN (1), .bool false⟩]
  | 1, 1 => [⟨.eql, xN 1, kN (0), .bool true⟩, ⟨.eql, xN 1, kN (1), .bool false⟩, ⟨.lss, xN 1, kN (0), .bool false⟩, ⟨.gtr, xN 1, kN (1), .bool false⟩]
  | 1, 2 => [⟨.eql, xN 1, kN (0), .bool false⟩, ⟨.eql, xN 1, kN (1), .bool true⟩, ⟨.lss, xN 1, kN (0), .bool false⟩, ⟨.gtr, xN 1, kN (1), .bool false⟩]
  | 1, 3 => [⟨.eql, xN 1, kN (0), .bool false⟩, ⟨.eql, xN 1, kN (1), .bool false⟩, ⟨.lss, xN 1, kN (0), .bool false⟩, ⟨.gtr, xN 1, kN (1), .bool true⟩]
  | 2, 0 => [⟨.eql, xN 1, kN (0), .bool false⟩, ⟨.geq, xN 1, xN 7, .bool false⟩, ⟨.lss, xN 1, xN 7, .bool true⟩, ⟨.leq, xN 1, xN 9, .bool true⟩, ⟨.gtr, xN 1, xN 9, .bool false⟩]
  | 2, 1 => [⟨.eql, xN 1, kN (0), .bool false⟩, ⟨.geq, xN 1, xN 7, .bool true⟩, ⟨.lss, xN 1, xN 7, .bool false⟩, ⟨.leq, xN 1, xN 9, .bool true⟩, ⟨.gtr, xN 1, xN 9, .bool false⟩]
  | 2, 2 => [⟨.eql, xN 1, kN (0), .bool false⟩, ⟨.geq, xN 1, xN 7, .bool true⟩, ⟨.lss, xN 1, xN 7, .bool false⟩, ⟨.leq, xN 1, xN 9, .bool false⟩, ⟨.gtr, xN 1, xN 9, .bool true⟩]
  | 2, 3 => [⟨.eql, xN 1, kN (0), .bool true⟩, ⟨.geq, xN 1, xN 7, .bool false⟩, ⟨.lss, xN 1, xN 7, .bool true⟩, ⟨.leq, xN 1, xN 9, .bool true⟩, ⟨.gtr, xN 1, xN 9, .bool false⟩]
  | 2, 4 => [⟨.eql, xN 1, kN (0), .bool true⟩, ⟨.geq, xN 1, xN 7, .bool true⟩, ⟨.lss, xN 1, xN 7, .bool false⟩, ⟨.leq, xN 1, xN 9, .bool true⟩, ⟨.gtr, xN 1, xN 9, .bool false⟩]
  | 2, 5 => [⟨.eql, xN 1, kN (0), .bool true⟩, ⟨.geq, xN 1, xN 7, .bool true⟩, ⟨.lss, xN 1, xN 7, .bool false⟩, ⟨.leq, xN 1, xN 9, .bool false⟩, ⟨.gtr, xN 1, xN 9, .bool true⟩]
  | 3, 0 => [⟨.eql, xN 1, kN (0), .bool false⟩, ⟨.lss, xN 1, kN (0), .bool true⟩, ⟨.gtr, xN 1, kN (0), .bool false⟩]
  | 3, 1 => [⟨.eql, xN 1, kN (0), .bool true⟩, ⟨.lss, xN 1, kN (0), .bool false⟩, ⟨.gtr, xN 1, kN (0), .bool false⟩]
  | 3, 2 => [⟨.eql, xN 1, kN (0), .bool false⟩, ⟨.lss, xN 1, kN (0), .bool false⟩, ⟨.gtr, xN 1, kN (0), .bool true⟩]
  | 4, 0 => [⟨.eql, xN 1, kN (0), .bool false⟩, ⟨.lss, xN 1, kN (0), .bool true⟩, ⟨.gtr, xN 1, kN (0), .bool false⟩]
  | 4, 1 => [⟨.eql, xN 1, kN (0), .bool true⟩, ⟨.lss, xN 1, kN (0), .bool false⟩, ⟨.gtr, xN 1, kN (0), .bool false⟩]
  | 4, 2 => [⟨.eql, xN 1, kN (0), .bool false⟩, ⟨.lss, xN 1, kN (0), .bool false⟩, ⟨.gtr, xN 1, kN (0), .bool true⟩]
  | _, _ => []
theorem orq_0_0 {σ : Nat → Int} (h : σ 1 < -32768) : ∀ e ∈ orq 0 0, OrcOk σ e :=
  cons_mem (orc_eql (den_x 1) (den_k _) (by simp; omega)) (cons_mem (orc_lss (den_x 1) (den_k _) (by simp; omega)) (cons_mem (orc_geq (den_x 1) (den_k _) (by simp; omega)) (cons_mem (orc_leq (den_x 1) (den_k _) (by simp; omega)) (cons_mem (orc_gtr (den_x 1) (den_k _) (by simp; omega)) nil_mem))))
theorem orq_0_1 {σ : Nat → Int} (h : -32768 ≤ σ 1 ∧ σ 1 ≤ 32767 ∧ σ 1 ≠ 0) : ∀ e ∈ orq 0 1, OrcOk σ e :=
  cons_mem (orc_eql (den_x 1) (den_k _) (by simp; omega)) (cons_mem (orc_lss (den_x 1) (den_k _) (by simp; omega)) (cons_mem (orc_geq (den_x 1) (den_k _) (by simp; omega)) (cons_mem (orc_leq (den_x 1) (den_k _) (by simp; omega)) (cons_mem (orc_gtr (den_x 1) (den_k _) (by simp; omega)) nil_mem))))
theorem orq_0_2 {σ : Nat → Int} (h : σ 1 = 0) : ∀ e ∈ orq 0 2, OrcOk σ e :=
  cons_mem (orc_eql (den_x 1) (den_k _) (by simp; omega)) (cons_mem (orc_lss (den_x 1) (den_k _) (by simp; omega)) (cons_mem (orc_geq (den_x 1) (den_k _) (by simp; omega)) (cons_mem (orc_leq (den_x 1) (den_k _) (by simp; omega)) (cons_mem (orc_gtr (den_x 1) (den_k _) (by simp; omega)) nil_mem))))
theorem orq_0_3 {σ : Nat → Int} (h : 32767 < σ 1) : ∀ e ∈ orq 0 3, OrcOk σ e :=
  cons_mem (orc_eql (den_x 1) (den_k _) (by simp; omega)) (cons_mem (orc_lss (den_x 1) (den_k _) (by simp; omega)) (cons_mem (orc_geq (den_x 1) (den_k _) (by simp; omega)) (cons_mem (orc_leq (den_x 1) (den_k _) (by simp; omega)) (cons_mem (orc_gtr (den_x 1) (den_k _) (by simp; omega)) nil_mem))))
theorem orq_1_0 {σ : Nat → Int} (h : σ 1 < 0) : ∀ e ∈ orq 1 0, OrcOk σ e :=
  cons_mem (orc_eql (den_x 1) (den_k _) (by simp; omega)) (cons_mem (orc_eql (den_x 1) (den_k _) (by simp; omega)) (cons_mem (orc_lss (den_x 1) (den_k _) (by simp; omega)) (cons_mem (orc_gtr (den_x 1) (den_k _) (by simp; omega)) nil_mem)))
theorem orq_1_1 {σ : Nat → Int} (h : σ 1 = 0) : ∀ e ∈ orq 1 1, OrcOk σ e :=
  cons_mem (orc_eql (den_x 1) (den_k _) (by simp; omega)) (cons_mem (orc_eql (den_x 1) (den_k _) (by simp; omega)) (cons_mem (orc_lss (den_x 1) (den_k _) (by simp; omega)) (cons_mem (orc_gtr (den_x 1) (den_k _) (by simp; omega)) nil_mem)))
theorem orq_1_2 {σ : Nat → Int} (h : σ 1 = 1) : ∀ e ∈ orq 1 2, OrcOk σ e :=
  cons_mem (orc_eql (den_x 1) (den_k _) (by simp; omega)) (cons_mem (orc_eql (den_x 1) (den_k _) (by simp; omega)) (cons_mem (orc_lss (den_x 1) (den_k _) (by simp; omega)) (cons_mem (orc_gtr (den_x 1) (den_k _) (by simp; omega)) nil_mem)))
theorem orq_1_3 {σ : Nat → Int} (h : 1 < σ 1) : ∀ e ∈ orq 1 3, OrcOk σ e :=
  cons_mem (orc_eql (den_x 1) (den_k _) (by simp; omega)) (cons_mem (orc_eql (den_x 1) (den_k _) (by simp; omega)) (cons_mem (orc_lss (den_x 1) (den_k _) (by simp; omega)) (cons_mem (orc_gtr (den_x 1) (den_k _) (by simp; omega)) nil_mem)))
theorem orq_2_0 {σ : Nat → Int} (h : σ 1 ≠ 0 ∧ σ 1 < σ 7 ∧ σ 7 ≤ σ 9) : ∀ e ∈ orq 2 0, OrcOk σ e :=
  cons_mem (orc_eql (den_x 1) (den_k _) (by simp; omega)) (cons_mem (orc_geq (den_x 1) (den_x 7) (by simp; omega)) (cons_mem (orc_lss (den_x 1) (den_x 7) (by simp; omega)) (cons_mem (orc_leq (den_x 1) (den_x 9) (by simp; omega)) (cons_mem (orc_gtr (den_x 1) (den_x 9) (by simp; omega)) nil_mem))))
theorem orq_2_1 {σ : Nat → Int} (h : σ 1 ≠ 0 ∧ σ 7 ≤ σ 1 ∧ σ 1 ≤ σ 9) : ∀ e ∈ orq 2 1, OrcOk σ e :=
  cons_mem (orc_eql (den_x 1) (den_k _) (by simp; omega)) (cons_mem (orc_geq (den_x 1) (den_x 7) (by simp; omega)) (cons_mem (orc_lss (den_x 1) (den_x 7) (by simp; omega)) (cons_mem (orc_leq (den_x 1) (den_x 9) (by simp; omega)) (cons_mem (orc_gtr (den_x 1) (den_x 9) (by simp; omega)) nil_mem))))
theorem orq_2_2 {σ : Nat → Int} (h : σ 1 ≠ 0 ∧ σ 9 < σ 1 ∧ σ 7 ≤ σ 9) : ∀ e ∈ orq 2 2, OrcOk σ e :=
  cons_mem (orc_eql (den_x 1) (den_k _) (by simp; omega)) (cons_mem (orc_geq (den_x 1) (den_x 7) (by simp; omega)) (cons_mem (orc_lss (den_x 1) (den_x 7) (by simp; omega)) (cons_mem (orc_leq (den_x 1) (den_x 9) (by simp; omega)) (cons_mem (orc_gtr (den_x 1) (den_x 9) (by simp; omega)) nil_mem))))
theorem orq_2_3 {σ : Nat → Int} (h : σ 1 = 0 ∧ σ 1 < σ 7 ∧ σ 7 ≤ σ 9) : ∀ e ∈ orq 2 3, OrcOk σ e :=
  cons_mem (orc_eql (den_x 1) (den_k _) (by simp; omega)) (cons_mem (orc_geq (den_x 1) (den_x 7) (by simp; omega)) (cons_mem (orc_lss (den_x 1) (den_x 7) (by simp; omega)) (cons_mem (orc_leq (den_x 1) (den_x 9) (by simp; omega)) (cons_mem (orc_gtr (den_x 1) (den_x 9) (by simp; omega)) nil_mem))))
theorem orq_2_4 {σ : Nat → Int} (h : σ 1 = 0 ∧ σ 7 ≤ σ 1 ∧ σ 1 ≤ σ 9) : ∀ e ∈ orq 2 4, OrcOk σ e :=
  cons_mem (orc_eql (den_x 1) (den_k _) (by simp; omega)) (cons_mem (orc_geq (den_x 1) (den_x 7) (by simp; omega)) (cons_mem (orc_lss (den_x 1) (den_x 7) (by simp; omega)) (cons_mem (orc_leq (den_x 1) (den_x 9) (by simp; omega)) (cons_mem (orc_gtr (den_x 1) (den_x 9) (by simp; omega)) nil_mem))))
theorem orq_2_5 {σ : Nat → Int} (h : σ 1 = 0 ∧ σ 9 < σ 1 ∧ σ 7 ≤ σ 9) : ∀ e ∈ orq 2 5, OrcOk σ e :=
  cons_mem (orc_eql (den_x 1) (den_k _) (by simp; omega)) (cons_mem (orc_geq (den_x 1) (den_x 7) (by simp; omega)) (cons_mem (orc_lss (den_x 1) (den_x 7) (by simp; omega)) (cons_mem (orc_leq (den_x 1) (den_x 9) (by simp; omega)) (cons_mem (orc_gtr (den_x 1) (den_x 9) (by simp; omega)) nil_mem))))
theorem orq_3_0 {σ : Nat → Int} (h : σ 1 < 0) : ∀ e ∈ orq 3 0, OrcOk σ e :=
  cons_mem (orc_eql (den_x 1) (den_k _) (by simp; omega)) (cons_mem (orc_lss (den_x 1) (den_k _) (by simp; omega)) (cons_mem (orc_gtr (den_x 1) (den_k _) (by simp; omega)) nil_mem))
theorem orq_3_1 {σ : Nat → Int} (h : σ 1 = 0) : ∀ e ∈ orq 3 1, OrcOk σ e :=
  cons_mem (orc_eql (den_x 1) (den_k _) (by simp; omega)) (cons_mem (orc_lss (den_x 1) (den_k _) (by simp; omega)) (cons_mem (orc_gtr (den_x 1) (den_k _) (by simp; omega)) nil_mem))
theorem orq_3_2 {σ : Nat → Int} (h : 0 < σ 1) : ∀ e ∈ orq 3 2, OrcOk σ e :=
  cons_mem (orc_eql (den_x 1) (den_k _) (by simp; omega)) (cons_mem (orc_lss (den_x 1) (den_k _) (by simp; omega)) (cons_mem (orc_gtr (den_x 1) (den_k _) (by simp; omega)) nil_mem))
theorem orq_4_0 {σ : Nat → Int} (h : σ 1 < 0) : ∀ e ∈ orq 4 0, OrcOk σ e :=
  cons_mem (orc_eql (den_x 1) (den_k _) (by simp; omega)) (cons_mem (orc_lss (den_x 1) (den_k _) (by simp; omega)) (cons_mem (orc_gtr (den_x 1) (den_k _) (by simp; omega)) nil_mem))
theorem orq_4_1 {σ : Nat → Int} (h : σ 1 = 0) : ∀ e ∈ orq 4 1, OrcOk σ e :=
  cons_mem (orc_eql (den_x 1) (den_k _) (by simp; omega)) (cons_mem (orc_lss (den_x 1) (den_k _) (by simp; omega)) (cons_mem (orc_gtr (den_x 1) (den_k _) (by simp; omega)) nil_mem))
theorem orq_4_2 {σ : Nat → Int} (h : 0 < σ 1) : ∀ e ∈ orq 4 2, OrcOk σ e :=
  cons_mem (orc_eql (den_x 1) (den_k _) (by simp; omega)) (cons_mem (orc_lss (den_x 1) (den_k _) (by simp; omega)) (cons_mem (orc_gtr (den_x 1) (den_k _) (by simp; omega)) nil_mem))
def base : List Orc := [⟨.sub, xN 6, kN 25, xN 7⟩, ⟨.add, xN 7, xN 8, xN 9⟩, ⟨.leq, kN (-32768), xN 7, .bool true⟩, ⟨.leq, xN 7, xN 9, .bool true⟩, ⟨.leq, xN 9, kN 32767, .bool true⟩]
/-- the slot is a number that is not written out -/
noncomputable def tabS (k q d : Nat) : Tab := tabW (⟨.sub, xN 10, kN 2, xN 11⟩ :: (base ++ orq k q)) [] [lowC 0 5 k, lowS 2 50 6, lowS 3 30 8, lowC 4 3 d, lowS 5 12 10, awakeC]
/-- the slot is written out -/
noncomputable def tabT (k q d s : Nat) : Tab := tabW (base ++ orq k q) [] [lowC 0 5 k, lowS 2 50 6, lowS 3 30 8, lowC 4 3 d, lowC 5 12 s, awakeC]
noncomputable def runS (k q d : Nat) : Bool := isV (.bool true) (funE (tabS k q d) 300 3 [xN 0, xN 1, xN 2, xN 3, xN 4, xN 5] ⟨.nil, 1⟩)
noncomputable def runT (k q d s : Nat) : Bool := isV (.bool true) (funE (tabT k q d s) 300 3 [xN 0, xN 1, xN 2, xN 3, xN 4, xN 5] ⟨.nil, 1⟩)
noncomputable def allS (k q : Nat) : Bool := [0, 1, 2].all fun d => runS k q d
noncomputable def allT (k q d : Nat) : Bool := (List.range 12).all fun s => runT k q d s
end Go.Proofs.YtbjaiijdhboioaaGreat
