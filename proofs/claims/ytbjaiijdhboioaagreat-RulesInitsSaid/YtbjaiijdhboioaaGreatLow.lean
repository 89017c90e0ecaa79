/-
  A number brought below another one; how what the kernel works out is handed on.
-/
import Derived.Test.YtbjaiijdhboioaaGreatTab
import Derived.WalkKit
import Derived.ProofKit
import Derived.OpenShut
import Derived.IntWalk
namespace Go.Proofs.YtbjaiijdhboioaaGreat
open Go Go.Proofs.YtbjaiijdhboioaaGreat.Sx
open Go.RowKit

def low (x n : Int) : Int := (x % 18446744073709551616) % n
theorem low_bd (x n : Int) (h : 1 ≤ n) : 0 ≤ low x n ∧ low x n < n := ⟨Int.emod_nonneg _ (by omega), Int.emod_lt_of_pos _ (by omega)⟩
theorem wrapu64 (n : Int) : IntKind.u64.wrap n = n % 18446744073709551616 := by simp [IntKind.wrap, IntKind.signed, IntKind.bits]
theorem ret_low {x n : Int} (h0 : 0 ≤ IntKind.u64.wrap x) (h1 : 1 ≤ n) (h2 : n ≤ 1000000) : Ending.returned (.int .i64 (wrap64 ((IntKind.u64.wrap x).tmod n))) = .returned (.int .i64 (low x n)) := by
  rw [Int.tmod_eq_emod_of_nonneg h0, wrapu64]
  have := low_bd x n h1
  unfold low at *
  rw [IntWalk.wrap64_in _ (by omega)]
theorem low_any (x n : Int) (h1 : 1 ≤ n) (h2 : n ≤ 1000000) (w : World) : Calls Tryz.prog 4 #[.int .i64 x, .int .i64 n] w fun e w' => e = .returned (.int .i64 (low x n)) ∧ w = w' := by
  have e1 : IntKind.u64.wrap n = n := by rw [wrapu64]; omega
  have e0 : ¬ n = 0 := by omega
  go_enter Tryz.func4, Tryz.ntmps4
  go_wp2
  go_ret
  exact ⟨ret_low (by rw [wrapu64]; omega) h1 h2, rfl⟩
theorem low_nat (x : Int) (n : Nat) (h : 1 ≤ n) : ∃ k : Nat, k < n ∧ low x n = k := by
  obtain ⟨h1, h2⟩ := low_bd x n (by omega)
  exact ⟨(low x n).toNat, by omega, by omega⟩
/-- a number that is not written out -/
def xN (i : Nat) : Value := .float .f64 i
def iN (n : Nat) : Value := .int .i64 (Int.ofNat n)
/-- that such a number, brought below another, is so much -/
def lowC (i n c : Nat) : Ctr := ⟨4, [xN i, iN n], iN c⟩
theorem lowC_ok {σ : Nat → Int} {i n c : Nat} (h1 : 1 ≤ n) (h2 : n ≤ 1000000) (h : low (σ i) n = c) :
    flatV (lowC i n c).v = true ∧ (lowC i n c).args.all flatV = true ∧ ∀ w, Calls Tryz.prog (lowC i n c).f ((lowC i n c).args.map (den σ E00)).toArray w fun r w' => r = .returned (den σ E00 (lowC i n c).v) ∧ Below w.heap.size w w' := by
  refine ⟨rfl, rfl, fun w => ?_⟩
  have e : ((lowC i n c).args.map (den σ E00)).toArray = #[.int .i64 (σ i), .int .i64 n] := by
    simp [lowC, xN, iN, den_sym, den_int]
  rw [e]
  refine (low_any (σ i) n (by omega) (by omega) w).mono ?_
  rintro r w' ⟨rfl, rfl⟩
  refine ⟨?_, Below.refl _ _⟩
  rw [h]
  show _ = Ending.returned (den σ E00 (.int .i64 (Int.ofNat c)))
  rw [den_int]
  rfl

/-- that such a number, brought below another, is such another one -/
def lowS (i n j : Nat) : Ctr := ⟨4, [xN i, iN n], xN j⟩
theorem lowS_ok {σ : Nat → Int} {i n j : Nat} (h1 : 1 ≤ n) (h2 : n ≤ 1000000) (h : low (σ i) n = σ j) :
    flatV (lowS i n j).v = true ∧ (lowS i n j).args.all flatV = true ∧ ∀ w, Calls Tryz.prog (lowS i n j).f ((lowS i n j).args.map (den σ E00)).toArray w fun r w' => r = .returned (den σ E00 (lowS i n j).v) ∧ Below w.heap.size w w' := by
  refine ⟨rfl, rfl, fun w => ?_⟩
  have e : ((lowS i n j).args.map (den σ E00)).toArray = #[.int .i64 (σ i), .int .i64 n] := by
    simp [lowS, xN, iN, den_sym, den_int]
  rw [e]
  refine (low_any (σ i) n (by omega) (by omega) w).mono ?_
  rintro r w' ⟨rfl, rfl⟩
  refine ⟨?_, Below.refl _ _⟩
  rw [h]
  show _ = Ending.returned (den σ E00 (.float .f64 j))
  rw [den_sym]
theorem wrap_in (n : Int) (h1 : -9223372036854775808 ≤ n) (h2 : n ≤ 9223372036854775807) : IntKind.i64.wrap n = n := IntWalk.i64_in n ⟨h1, h2⟩
def kN (n : Int) : Value := .int .i64 n
def OrcOk (σ : Nat → Int) (e : Orc) : Prop := flatV e.v = true ∧ ∃ a b, (∀ E, den σ E e.x = .int .i64 a) ∧ (∀ E, den σ E e.y = .int .i64 b) ∧ intB e.op .i64 a b = some (den σ E00 e.v)
def Den (σ : Nat → Int) (v : Value) (a : Int) : Prop := ∀ E, den σ E v = .int .i64 a
theorem den_x {σ : Nat → Int} (i : Nat) : Den σ (xN i) (σ i) := fun E => den_sym E i
theorem den_k {σ : Nat → Int} (n : Int) : Den σ (kN n) n := fun E => den_int E _ _
theorem orc_b {σ : Nat → Int} {op : BinOp} {x y : Value} {a b : Int} {r : Bool} (hx : Den σ x a) (hy : Den σ y b) (h : intB op .i64 a b = some (.bool r)) : OrcOk σ ⟨op, x, y, .bool r⟩ :=
  ⟨rfl, a, b, hx, hy, by rw [h, den_bool]⟩
theorem orc_lss {σ : Nat → Int} {x y : Value} {a b : Int} {r : Bool} (hx : Den σ x a) (hy : Den σ y b) (h : decide (a < b) = r) : OrcOk σ ⟨.lss, x, y, .bool r⟩ := orc_b hx hy (by rw [← h]; rfl)
theorem orc_leq {σ : Nat → Int} {x y : Value} {a b : Int} {r : Bool} (hx : Den σ x a) (hy : Den σ y b) (h : decide (a ≤ b) = r) : OrcOk σ ⟨.leq, x, y, .bool r⟩ := orc_b hx hy (by rw [← h]; rfl)
theorem orc_gtr {σ : Nat → Int} {x y : Value} {a b : Int} {r : Bool} (hx : Den σ x a) (hy : Den σ y b) (h : decide (a > b) = r) : OrcOk σ ⟨.gtr, x, y, .bool r⟩ := orc_b hx hy (by rw [← h]; rfl)
theorem orc_geq {σ : Nat → Int} {x y : Value} {a b : Int} {r : Bool} (hx : Den σ x a) (hy : Den σ y b) (h : decide (a ≥ b) = r) : OrcOk σ ⟨.geq, x, y, .bool r⟩ := orc_b hx hy (by rw [← h]; rfl)
theorem orc_eql {σ : Nat → Int} {x y : Value} {a b : Int} {r : Bool} (hx : Den σ x a) (hy : Den σ y b) (h : decide (a = b) = r) : OrcOk σ ⟨.eql, x, y, .bool r⟩ := orc_b hx hy (by rw [← h]; rfl)
theorem orc_i {σ : Nat → Int} {op : BinOp} {x y : Value} {a b : Int} {j : Nat} (hx : Den σ x a) (hy : Den σ y b) (h : intB op .i64 a b = some (.int .i64 (σ j))) : OrcOk σ ⟨op, x, y, xN j⟩ :=
  ⟨rfl, a, b, hx, hy, by rw [h]; show _ = some (den σ E00 (.float .f64 j)); rw [den_sym]⟩
theorem orc_sub {σ : Nat → Int} {x y : Value} {a b : Int} {j : Nat} (hx : Den σ x a) (hy : Den σ y b) (h : σ j = a - b) (h1 : -9223372036854775808 ≤ σ j) (h2 : σ j ≤ 9223372036854775807) : OrcOk σ ⟨.sub, x, y, xN j⟩ :=
  orc_i hx hy (by show some (Value.int .i64 (IntKind.i64.wrap (a - b))) = _; rw [← h, wrap_in _ h1 h2])
theorem orc_add {σ : Nat → Int} {x y : Value} {a b : Int} {j : Nat} (hx : Den σ x a) (hy : Den σ y b) (h : σ j = a + b) (h1 : -9223372036854775808 ≤ σ j) (h2 : σ j ≤ 9223372036854775807) : OrcOk σ ⟨.add, x, y, xN j⟩ :=
  orc_i hx hy (by show some (Value.int .i64 (IntKind.i64.wrap (a + b))) = _; rw [← h, wrap_in _ h1 h2])
end Go.Proofs.YtbjaiijdhboioaaGreat
