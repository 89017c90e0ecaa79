/-
  RulesTasks: the sample; what is asked of numbers.
-/
import Derived.Test.YthihfpcoanaeoaaGreatLow
namespace Go.Proofs.YthihfpcoanaeoaaGreat
open Go Go.Proofs.YthihfpcoanaeoaaGreat.Sx
open Go.RowKit
theorem awake_run : isV (.bool true) (funE (tabW [] [] []) 300 7 [] ⟨.nil, 1⟩) = true := by kernel_rfl
def awakeC : Ctr := ⟨7, [], .bool true⟩
theorem awakeC_ok {σ : Nat → Int} : flatV awakeC.v = true ∧ awakeC.args.all flatV = true ∧ ∀ w, Calls Tryz.prog awakeC.f (awakeC.args.map (den σ E00)).toArray w fun r w' => r = .returned (den σ E00 awakeC.v) ∧ Below w.heap.size w w' :=
  ⟨rfl, rfl, fun w => calls_isV tab_plain awake_run rfl rfl w⟩
/-- a number against its least and its greatest: below, within, above -/
def cmp (i : Nat) (lo hi : Int) : Nat → List Orc
  | 0 => [⟨.lss, xN i, kN lo, .bool true⟩, ⟨.geq, xN i, kN lo, .bool false⟩, ⟨.leq, xN i, kN hi, .bool true⟩, ⟨.gtr, xN i, kN hi, .bool false⟩]
  | 1 => [⟨.lss, xN i, kN lo, .bool false⟩, ⟨.geq, xN i, kN lo, .bool true⟩, ⟨.leq, xN i, kN hi, .bool true⟩, ⟨.gtr, xN i, kN hi, .bool false⟩]
  | _ => [⟨.lss, xN i, kN lo, .bool false⟩, ⟨.geq, xN i, kN lo, .bool true⟩, ⟨.leq, xN i, kN hi, .bool false⟩, ⟨.gtr, xN i, kN hi, .bool true⟩]
theorem cmp_ok {σ : Nat → Int} {i : Nat} {lo hi : Int} (h : lo ≤ hi) : ∃ c, c < 3 ∧ ∀ e ∈ cmp i lo hi c, OrcOk σ e := by
  by_cases h1 : σ i < lo
  · refine ⟨0, by omega, cons_mem (orc_lss ?_) (cons_mem (orc_geq ?_) (cons_mem (orc_leq ?_) (cons_mem (orc_gtr ?_) nil_mem)))⟩ <;> simp <;> omega
  · by_cases h2 : σ i ≤ hi
    · refine ⟨1, by omega, cons_mem (orc_lss ?_) (cons_mem (orc_geq ?_) (cons_mem (orc_leq ?_) (cons_mem (orc_gtr ?_) nil_mem)))⟩ <;> simp <;> omega
    · refine ⟨2, by omega, cons_mem (orc_lss ?_) (cons_mem (orc_geq ?_) (cons_mem (orc_leq ?_) (cons_mem (orc_gtr ?_) nil_mem)))⟩ <;> simp <;> omega
noncomputable def tabC (e f : Nat) : Tab := tabW ([⟨.sub, xN 2, kN 3, xN 4⟩, ⟨.sub, xN 3, kN 3, xN 5⟩] ++ (cmp 4 1 100 e ++ cmp 5 0 9 f)) [] [lowS 0 114 2, lowS 1 20 3, awakeC]
noncomputable def runK (e f : Nat) : Bool := [true, false].all fun x => [true, false].all fun y => isV (.bool true) (funE (tabC e f) 300 3 [xN 0, xN 1, .bool x, .bool y] ⟨.nil, 1⟩)
end Go.Proofs.YthihfpcoanaeoaaGreat
