/-
  BoundLines: the sample; what is asked of numbers, of sums, of what lies outside.
-/
import Derived.Test.YtjcjnmphneafoaaLow
namespace Go.Proofs.Ytjcjnmphneafoaa
open Go Go.Proofs.Ytjcjnmphneafoaa.Sx
open Go.RowKit
theorem awake_run : isV (.bool true) (funS (tabW [] [] [] []) 300 4 [] ⟨.nil, 1⟩) = true := by kernel_rfl
def sg0 : Sg := ⟨fun _ => 0, fun _ => .nilFunc, [], fun _ => rfl, fun _ => rfl, fun _ _ h => nomatch h⟩
def awakeC : Ctr := ⟨4, [], .bool true⟩
theorem awakeC_ok {σ : Sg} : CtrOk σ awakeC :=
  ⟨rfl, rfl, fun w => by
    have h := calls_isS (σ := sg0) tab_plain awake_run rfl rfl w nil_mem
    rw [den_bool] at h
    show Calls Try.prog 4 #[] w fun r w' => r = .returned (den σ E00 (.bool true)) ∧ Below w.heap.size w w'
    rw [den_bool]
    exact h⟩
/-- the first sums, and the last ones -/
def preV (k : Nat) : Value := match k with
  | 1 => xN 100
  | k => xN (200 + k)
def sufV (n c : Nat) : Value := bif Nat.beq (c + 1) n then xN (100 + c) else xN (300 + c)
def orcs (n : Nat) : List Orc :=
  ⟨.eql, sufV n 0, preV n, .bool true⟩ :: ((List.range n).map (fun i => ⟨.add, iN 0, xN (100 + i), xN (100 + i)⟩) ++
  ((List.range (n - 1)).map (fun k => ⟨.add, preV (k + 1), xN (100 + (k + 1)), preV (k + 2)⟩) ++
  (List.range (n - 1)).map (fun c => ⟨.add, sufV n (c + 1), xN (100 + c), sufV n c⟩)))
def mmos (n : Nat) : List Mmo := (List.range n).map fun c => ⟨true, iN 0, sufV n c, sufV n c⟩
def ctrs (n b : Nat) : List Ctr := awakeC :: ⟨5, [xN 0, iN n], iN b⟩ :: (List.range n).map fun i => ⟨5, [xN (400 + i), iN 50], xN (100 + i)⟩
def exts (n : Nat) : List Xo := ⟨2, 22, [oN 0], iN n⟩ :: ((List.range n).map (fun i => ⟨1, 22, [oN 0, iN i], oN (1 + i)⟩) ++ (List.range n).map (fun i => ⟨0, 3, [oN (1 + i)], xN (400 + i)⟩))
noncomputable def tabB (n b : Nat) : Tab := tabW (orcs n) (mmos n) (ctrs n b) (exts n)
noncomputable def runB (n b : Nat) : Bool := isV (.bool true) (funS (tabB n b) 300 3 [oN 0, xN 0] ⟨.nil, 1⟩)
/-- none at all -/
noncomputable def run0 : Bool := isV (.bool true) (funS (tabW [] [] [awakeC] [⟨2, 22, [oN 0], iN 0⟩]) 300 3 [oN 0, xN 0] ⟨.nil, 1⟩)
/-- too many -/
noncomputable def run1 : Bool := isV (.bool true) (funS (tabW [⟨.gtr, xN 1, iN 30, .bool true⟩] [] [awakeC] [⟨2, 22, [oN 0], xN 1⟩]) 300 3 [oN 0, xN 0] ⟨.nil, 1⟩)
end Go.Proofs.Ytjcjnmphneafoaa
