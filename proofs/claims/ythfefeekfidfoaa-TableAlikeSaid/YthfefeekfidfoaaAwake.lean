/-
  TableAlike: the sample; what is asked of what lies outside; the runs.
-/
import Derived.Test.YthfefeekfidfoaaTab
import Derived.WalkKit
namespace Go.Proofs.Ythfefeekfidfoaa
open Go Go.Proofs.Ythfefeekfidfoaa.Sx
open Go.RowKit
theorem awake_run : isV (.bool true) (funS (tabW [] [] [] [] []) 300 4 [] ⟨.nil, 1⟩) = true := by kernel_rfl
def awakeC : Ctr := ⟨4, [], .bool true⟩
/-- a number that is not written out; a value that lies outside; a number -/
def xN (i : Nat) : Value := .float .f64 i
def oN (i : Nat) : Value := .float .f32 i
def iN (n : Nat) : Value := .int .i64 (Int.ofNat n)
def tyO (b : Nat) : Value := .agg #[oN b, oN (b + 1), oN (b + 2), oN (b + 3)]
def varO (b : Nat) : Value := .agg #[oN b, oN (b + 1), oN (b + 2), oN (b + 3), oN (b + 4), oN (b + 5), oN (b + 6), oN (b + 7)]
def metO (b : Nat) : Value := .agg #[oN b, oN (b + 1), oN (b + 2), oN (b + 3), oN (b + 4), oN (b + 5), oN (b + 6), oN (b + 7), oN (b + 8), oN (b + 9), oN (b + 10)]
/-- a row of variables: where each stands, what stands there, its type -/
def row (b s p n : Nat) : List Xo := (List.range n).flatMap fun i =>
  [⟨1, 22, [oN b, iN i], oN (p + i)⟩, ⟨0, 30, [oN (p + i)], varO (s + 10 * i)⟩, ⟨31, 30, [oN (p + i)], oN (p + 50 + i)⟩, ⟨0, 24, [oN (p + 50 + i)], tyO (s + 10 * i + 1)⟩]
def eq2 (a b : Nat) (v : Bool) : List Xo := [⟨10, 24, [tyO a, tyO b], .bool v⟩, ⟨11, 24, [tyO a, tyO b], .bool (!v)⟩]
def nots : List Xo := [⟨20, 0, [oN 1], oN 11⟩, ⟨20, 0, [oN 2], oN 12⟩, ⟨20, 0, [oN 3], oN 13⟩]
/-- how far two rows are alike: up to k, and not there, if that is in both -/
def eqs (la k : Nat) : List Xo := (List.range (min (k + 1) la)).flatMap fun i =>
  eq2 (101 + 10 * i) (201 + 10 * i) (!Nat.beq i k) ++ eq2 (201 + 10 * i) (101 + 10 * i) (!Nat.beq i k)
def self (la : Nat) : List Xo := (List.range la).flatMap fun i => eq2 (101 + 10 * i) (101 + 10 * i) true
def exts (la lb : Nat) (r : Bool) (es : List Xo) : List Xo :=
  [⟨2, 22, [oN 4], iN la⟩, ⟨2, 22, [oN 24], iN lb⟩, ⟨2, 9, [oN 40], xN 1⟩] ++ (nots ++ (row 4 100 300 la ++ (row 24 200 400 lb ++ (eq2 5 25 r ++ (eq2 25 5 r ++ (eq2 5 5 true ++ (es ++ self la)))))))
def srcs (la : Nat) : List Sr := [⟨4, 8, la, (List.range la).flatMap fun i => [oN (100 + 10 * i), oN (100 + 10 * i + 1), oN (100 + 10 * i + 2), oN (100 + 10 * i + 3), oN (100 + 10 * i + 4), oN (100 + 10 * i + 5), oN (100 + 10 * i + 6), oN (100 + 10 * i + 7)]⟩]
noncomputable def tabQ (la lb : Nat) (r : Bool) (es : List Xo) : Tab := tabW [⟨.gtr, xN 1, iN 60, .bool false⟩] [] [awakeC] (exts la lb r es) (srcs la)
noncomputable def runQ (la lb : Nat) (r : Bool) (es : List Xo) : Bool := isV (.bool true) (funS (tabQ la lb r es) 300 3 [metO 0, metO 20, oN 40] ⟨.nil, 1⟩)
/-- too many of the first one's, of the second one's, a name that is too long -/
noncomputable def runA : Bool := isV (.bool true) (funS (tabW [⟨.gtr, xN 1, iN 5, .bool true⟩] [] [awakeC] [⟨2, 22, [oN 4], xN 1⟩] []) 300 3 [metO 0, metO 20, oN 40] ⟨.nil, 1⟩)
noncomputable def runB : Bool := isV (.bool true) (funS (tabW [⟨.gtr, xN 1, iN 5, .bool false⟩, ⟨.gtr, xN 2, iN 5, .bool true⟩] [] [awakeC] [⟨2, 22, [oN 4], xN 1⟩, ⟨2, 22, [oN 24], xN 2⟩] []) 300 3 [metO 0, metO 20, oN 40] ⟨.nil, 1⟩)
noncomputable def runC : Bool := isV (.bool true) (funS (tabW [⟨.gtr, xN 1, iN 5, .bool false⟩, ⟨.gtr, xN 2, iN 5, .bool false⟩, ⟨.gtr, xN 3, iN 60, .bool true⟩] [] [awakeC] [⟨2, 22, [oN 4], xN 1⟩, ⟨2, 22, [oN 24], xN 2⟩, ⟨2, 9, [oN 40], xN 3⟩] []) 300 3 [metO 0, metO 20, oN 40] ⟨.nil, 1⟩)
end Go.Proofs.Ythfefeekfidfoaa
