/-
  A number brought below another one; how what the kernel works out is handed on.
-/
import Derived.Test.YtgmkplkonhkecaaTab
import Derived.WalkKit
import Derived.ProofKit
import Derived.OpenShut
import Derived.IntWalk
namespace Go.Proofs.Ytgmkplkonhkecaa
open Go Go.Proofs.Ytgmkplkonhkecaa.Sx
open Go.RowKit

def low (x n : Int) : Int := (x % 18446744073709551616) % n
theorem low_bd (x n : Int) (h : 1 ≤ n) : 0 ≤ low x n ∧ low x n < n := ⟨Int.emod_nonneg _ (by omega), Int.emod_lt_of_pos _ (by omega)⟩
theorem wrapu64 (n : Int) : IntKind.u64.wrap n = n % 18446744073709551616 := by simp [IntKind.wrap, IntKind.signed, IntKind.bits]
theorem ret_low {x n : Int} (h0 : 0 ≤ IntKind.u64.wrap x) (h1 : 1 ≤ n) (h2 : n ≤ 1000000) : Ending.returned (.int .i64 (wrap64 ((IntKind.u64.wrap x).tmod n))) = .returned (.int .i64 (low x n)) := by
  rw [Int.tmod_eq_emod_of_nonneg h0, wrapu64]
  have := low_bd x n h1
  unfold low at *
  rw [IntWalk.wrap64_in _ (by omega)]
theorem low_any (x n : Int) (h1 : 1 ≤ n) (h2 : n ≤ 1000000) (w : World) : Calls Try.prog 4 #[.int .i64 x, .int .i64 n] w fun e w' => e = .returned (.int .i64 (low x n)) ∧ w = w' := by
  have e1 : IntKind.u64.wrap n = n := by rw [wrapu64]; omega
  have e0 : ¬ n = 0 := by omega
  go_enter Try.func4, Try.ntmps4
  go_wp2
  go_ret
  exact ⟨ret_low (by rw [wrapu64]; omega) h1 h2, rfl⟩
theorem low_nat (x : Int) (n : Nat) (h : 1 ≤ n) : ∃ k : Nat, k < n ∧ low x n = k := by
  obtain ⟨h1, h2⟩ := low_bd x n (by omega)
  exact ⟨(low x n).toNat, by omega, by omega⟩
/-- a number that is not written out -/
def xN (i : Nat) : Value := .float .f64 i
def iN (n : Nat) : Value := .int .i64 (Int.ofNat n)
/-- that such a number, brought below another, is so much -/
def lowC (i n c : Nat) : Ctr := ⟨4, [xN i, iN n], iN c⟩
theorem lowC_ok {σ : Nat → Int} {i n c : Nat} (h1 : 1 ≤ n) (h2 : n ≤ 1000000) (h : low (σ i) n = c) :
    flatV (lowC i n c).v = true ∧ (lowC i n c).args.all flatV = true ∧ ∀ w, Calls Try.prog (lowC i n c).f ((lowC i n c).args.map (den σ E00)).toArray w fun r w' => r = .returned (den σ E00 (lowC i n c).v) ∧ Below w.heap.size w w' := by
  refine ⟨rfl, rfl, fun w => ?_⟩
  have e : ((lowC i n c).args.map (den σ E00)).toArray = #[.int .i64 (σ i), .int .i64 n] := by
    simp [lowC, xN, iN, den_sym, den_int]
  rw [e]
  refine (low_any (σ i) n (by omega) (by omega) w).mono ?_
  rintro r w' ⟨rfl, rfl⟩
  refine ⟨?_, Below.refl _ _⟩
  rw [h]
  show _ = Ending.returned (den σ E00 (.int .i64 (Int.ofNat c)))
  rw [den_int]
  rfl
end Go.Proofs.Ytgmkplkonhkecaa
