/-
  BlockEdges: the plain side: what counters and edges hold that are stepped on and on.
-/
import Derived.Test.YthlkhlpilaglmaaTimersPlain
namespace Go.Proofs.Ythlkhlpilaglmaa
open Go.ChangeShapes Go.WideShapes Go.ChangeAt Go.RowKit

/-- what is left to count down -/
def dn (n p : Int) : Int := if p - n < 0 then 0 else p - n
theorem up_next {n p d N : Int} {q L o I : Bool} (hn : 0 ≤ n ∧ n ≤ 100) (hp : 0 ≤ p ∧ p ≤ 100) (hN : (if I && !L then n + 1 else n) = N) : st 4 q L o n I p d = ⟨decide (p ≤ N), I, o, N⟩ := by
  subst hN
  simp only [st, if_neg (show ¬ (4 : Int) = 1 by omega), if_neg (show ¬ (4 : Int) = 2 by omega), if_neg (show ¬ (4 : Int) = 3 by omega), if_true]
  rw [clamp_in (by omega) (by omega)]
  have e : upC L n I = if (I && !L) = true then n + 1 else n := by
    unfold upC
    split
    · rw [w64 (by omega) (by omega), mn_r' (by omega)]
    · rfl
  rw [e]
theorem dn_next {n p d N c : Int} {q L o I : Bool} (hn : 0 ≤ n ∧ n ≤ 100) (hp : 0 ≤ p ∧ p ≤ 100) (hN : (if I && !L then n + 1 else n) = N) (hc : (if o then c else p) = dn n p) : st 5 q L o c I p d = ⟨dn N p == 0, I, true, dn N p⟩ := by
  subst hN
  simp only [st, if_neg (show ¬ (5 : Int) = 1 by omega), if_neg (show ¬ (5 : Int) = 2 by omega), if_neg (show ¬ (5 : Int) = 3 by omega), if_neg (show ¬ (5 : Int) = 4 by omega), if_true]
  rw [clamp_in (by omega) (by omega)]
  have e : dnC o c (I && !L) p = dn (if (I && !L) = true then n + 1 else n) p := by
    unfold dnC
    cases h : (I && !L)
    · simp only [hc]
      rfl
    · simp only [hc]
      have hb : 0 ≤ dn n p ∧ dn n p ≤ 100 := by unfold dn; split <;> omega
      have hw : wrap64 (dn n p - 1) = dn n p - 1 := IntWalk.wrap64_in _ (by omega)
      rw [hw]
      unfold dn
      simp only [if_true]
      (repeat' split) <;> omega
  rw [e]
theorem rise_next {p d c : Int} {q L o I : Bool} : st 6 q L o c I p d = ⟨I && !L, I, o, c⟩ := rfl
theorem fall_next {p d c : Int} {q L o I : Bool} : st 7 q L o c I p d = ⟨!I && L, I, o, c⟩ := rfl
end Go.Proofs.Ythlkhlpilaglmaa
