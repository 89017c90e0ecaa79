/-
  A number brought below another one; how what the kernel works out is handed on.
-/
import Derived.Test.YtjcjnmphneafoaaTab
import Derived.WalkKit
import Derived.ProofKit
import Derived.OpenShut
import Derived.IntWalk
namespace Go.Proofs.Ytjcjnmphneafoaa
open Go Go.Proofs.Ytjcjnmphneafoaa.Sx
open Go.RowKit

def low (x n : Int) : Int := (x % 18446744073709551616) % n
theorem low_bd (x n : Int) (h : 1 ≤ n) : 0 ≤ low x n ∧ low x n < n := ⟨Int.emod_nonneg _ (by omega), Int.emod_lt_of_pos _ (by omega)⟩
theorem wrapu64 (n : Int) : IntKind.u64.wrap n = n % 18446744073709551616 := by simp [IntKind.wrap, IntKind.signed, IntKind.bits]
theorem ret_low {x n : Int} (h0 : 0 ≤ IntKind.u64.wrap x) (h1 : 1 ≤ n) (h2 : n ≤ 1000000) : Ending.returned (.int .i64 (wrap64 ((IntKind.u64.wrap x).tmod n))) = .returned (.int .i64 (low x n)) := by
  rw [Int.tmod_eq_emod_of_nonneg h0, wrapu64]
  have := low_bd x n h1
  unfold low at *
  rw [IntWalk.wrap64_in _ (by omega)]
theorem low_any (x n : Int) (h1 : 1 ≤ n) (h2 : n ≤ 1000000) (w : World) : Calls Try.prog 5 #[.int .i64 x, .int .i64 n] w fun e w' => e = .returned (.int .i64 (low x n)) ∧ w = w' := by
  have e1 : IntKind.u64.wrap n = n := by rw [wrapu64]; omega
  have e0 : ¬ n = 0 := by omega
  go_enter Try.func5, Try.ntmps5
  go_wp2
  go_ret
  exact ⟨ret_low (by rw [wrapu64]; omega) h1 h2, rfl⟩
theorem low_nat (x : Int) (n : Nat) (h : 1 ≤ n) : ∃ k : Nat, k < n ∧ low x n = k := by
  obtain ⟨h1, h2⟩ := low_bd x n (by omega)
  exact ⟨(low x n).toNat, by omega, by omega⟩
/-- a number that is not written out; a value that lies outside; a number -/
def xN (i : Nat) : Value := .float .f64 i
def oN (i : Nat) : Value := .float .f32 i
def iN (n : Nat) : Value := .int .i64 (Int.ofNat n)
section
variable {σ : Sg}
def Den (σ : Sg) (v : Value) (a : Int) : Prop := ∀ E, den σ E v = .int .i64 a
theorem den_x (i : Nat) : Den σ (xN i) (σ.n i) := fun E => den_sym E i
theorem den_i (n : Nat) : Den σ (iN n) n := fun E => den_int E _ _
def OrcOk (σ : Sg) (e : Orc) : Prop := flatV e.v = true ∧ ∃ a b, (∀ E, den σ E e.x = .int .i64 a) ∧ (∀ E, den σ E e.y = .int .i64 b) ∧ intB e.op .i64 a b = some (den σ E00 e.v)
def MmoOk (σ : Sg) (e : Mmo) : Prop := flatV e.v = true ∧ ∃ a b, (∀ E, den σ E e.x = .int .i64 a) ∧ (∀ E, den σ E e.y = .int .i64 b) ∧ den σ E00 e.v = .int .i64 (if e.mx then (if b > a then b else a) else (if b < a then b else a))
def CtrOk (σ : Sg) (e : Ctr) : Prop := flatV e.v = true ∧ e.args.all flatV = true ∧ ∀ w, Calls Try.prog e.f (e.args.map (den σ E00)).toArray w fun r w' => r = .returned (den σ E00 e.v) ∧ Below w.heap.size w w'
def ExtOk (σ : Sg) (e : Xo) : Prop := ∀ (ρ : Operand → Value) (o : Oper) (w : World) (E : Env), tagOf o.op = some (e.tag, e.t) → o.op.operands.toList.map ρ = e.vs.map (den σ E) → (∀ p ∈ σ.x, w.heap[p.1]? = some p.2) →
    (execOp ρ o).run Try.prog w = .ok (.value (den σ E e.v)) w
theorem orc_add {x y z : Value} {a b c : Int} (hf : flatV z = true) (hx : Den σ x a) (hy : Den σ y b) (hz : Den σ z c) (h : c = a + b) (h1 : -9223372036854775808 ≤ c) (h2 : c ≤ 9223372036854775807) : OrcOk σ ⟨.add, x, y, z⟩ :=
  ⟨hf, a, b, hx, hy, by
    show some (Value.int .i64 (IntKind.i64.wrap (a + b))) = _
    rw [← h, IntWalk.i64_in c ⟨h1, h2⟩, hz E00]⟩
theorem orc_eql {x y : Value} {a : Int} (hx : Den σ x a) (hy : Den σ y a) : OrcOk σ ⟨.eql, x, y, .bool true⟩ :=
  ⟨rfl, a, a, hx, hy, by
    show some (Value.bool (a == a)) = _
    rw [den_bool]; simp⟩
theorem orc_gtr {x y : Value} {a b : Int} (hx : Den σ x a) (hy : Den σ y b) (h : b < a) : OrcOk σ ⟨.gtr, x, y, .bool true⟩ :=
  ⟨rfl, a, b, hx, hy, by
    show some (Value.bool (decide (a > b))) = _
    rw [den_bool]; simp; omega⟩
theorem mmo_max {y : Value} {b : Int} (hf : flatV y = true) (hy : Den σ y b) (h : 0 ≤ b) : MmoOk σ ⟨true, iN 0, y, y⟩ :=
  ⟨hf, 0, b, den_i 0, hy, by
    show den σ E00 y = .int .i64 (if b > 0 then b else 0)
    rw [hy E00]
    by_cases e : b > 0
    · rw [if_pos e]
    · rw [if_neg e]; congr 1; omega⟩
theorem ctr_low {x z : Value} {a c : Int} {n : Nat} (h1 : 1 ≤ n) (h2 : n ≤ 1000000) (hfx : flatV x = true) (hfz : flatV z = true) (hx : Den σ x a) (hz : Den σ z c) (h : low a n = c) : CtrOk σ ⟨5, [x, iN n], z⟩ := by
  refine ⟨hfz, (by show (flatV x && (flatV (iN n) && true)) = true; rw [hfx]; rfl), fun w => ?_⟩
  have e : ([x, iN n].map (den σ E00)).toArray = #[.int .i64 a, .int .i64 n] := by
    simp only [List.map_cons, List.map_nil, hx E00, den_i n E00]
  show Calls Try.prog 5 ([x, iN n].map (den σ E00)).toArray w _
  rw [e]
  refine (low_any a n (by omega) (by omega) w).mono ?_
  rintro r w' ⟨rfl, rfl⟩
  refine ⟨?_, Below.refl _ _⟩
  rw [h]
  show _ = Ending.returned (den σ E00 z)
  rw [hz E00]
theorem tag_len {op : Op} {t : TypeId} (h : tagOf op = some (2, t)) : ∃ args ts, op = .call ⟨.builtin .len, args, ts⟩ ∧ ts[0]? = some t := by
  cases op with
  | call c =>
    obtain ⟨callee, args, ts⟩ := c
    cases callee with
    | builtin b =>
      cases b <;> simp only [tagOf] at h <;> (try (cases h; done))
      cases hts : ts[0]? with
      | none => rw [hts] at h; cases h
      | some u => rw [hts] at h; cases h; exact ⟨args, ts, rfl, hts⟩
    | _ => cases h
  | binOp op t' x y u => cases op <;> cases h
  | _ => cases h
theorem tag_idx {op : Op} {t : TypeId} (h : tagOf op = some (1, t)) : ∃ x i, op = .indexAddr t x i := by
  cases op with
  | indexAddr u x i => cases h; exact ⟨x, i, rfl⟩
  | call c =>
    obtain ⟨callee, args, ts⟩ := c
    cases callee with
    | builtin b =>
      cases b <;> simp only [tagOf] at h <;> (try (cases h; done))
      cases hts : ts[0]? with
      | none => rw [hts] at h; cases h
      | some u => rw [hts] at h; cases h
    | _ => cases h
  | binOp op t' x y u => cases op <;> cases h
  | _ => cases h
theorem tag_load {op : Op} {t : TypeId} (h : tagOf op = some (0, t)) : ∃ x, op = .load t x := by
  cases op with
  | load u x => cases h; exact ⟨x, rfl⟩
  | call c =>
    obtain ⟨callee, args, ts⟩ := c
    cases callee with
    | builtin b =>
      cases b <;> simp only [tagOf] at h <;> (try (cases h; done))
      cases hts : ts[0]? with
      | none => rw [hts] at h; cases h
      | some u => rw [hts] at h; cases h
    | _ => cases h
  | binOp op t' x y u => cases op <;> cases h
  | _ => cases h
theorem ext_len {o z : Value} {a : Option Addr} {len cap : Nat} {c : Int} (ho : ∀ E, den σ E o = .slice a len cap) (hz : Den σ z c) (h : c = len) : ExtOk σ ⟨2, 22, [o], z⟩ := by
  intro ρ o' w E ht hv _
  obtain ⟨dst, op, type, pos, after, guard⟩ := o'
  obtain ⟨args, ts, rfl, hts⟩ := tag_len ht
  have hv : args.toList.map ρ = [o].map (den σ E) := by simpa [Op.operands, Call.operands] using hv
  have hargs := args_eq (E := E) hv
  simp only [execOp, resolve, hargs, Sem.run_bind, Sem.run_pure, Result.andThen_ok, invoke, builtin]
  simp only [List.map_cons, List.map_nil, ho E, hz E]
  have : (Builtin.len_ ts type #[.slice a len cap]).run Try.prog w = .ok (.int .i64 c) w := by
    subst h
    simp [Builtin.len_, hts, goInt]
  rw [this]
  rfl
theorem ext_idx {o z : Value} {x : Addr} {len cap i : Nat} (ho : ∀ E, den σ E o = .slice (some x) len cap) (hz : ∀ E, den σ E z = .pointer (some (x.add i))) (h : i < len) : ExtOk σ ⟨1, 22, [o, iN i], z⟩ := by
  intro ρ o' w E ht hv _
  obtain ⟨dst, op, type, pos, after, guard⟩ := o'
  obtain ⟨u, k, rfl⟩ := tag_idx ht
  have hv : ρ u = den σ E o ∧ ρ k = den σ E (iN i) := by simpa [Op.operands] using hv
  have hr : (Instr.indexAt 22 (.slice (some x) len cap) (.int .i64 (i : Int))).run Try.prog w = .ok (.pointer (some (x.add i))) w := by
    simp [Instr.indexAt, asIntOf, h]
  simp only [execOp, hv.1, hv.2, ho E, den_i i E, hz E, Sem.run_bind, hr, Result.andThen_ok, Sem.run_pure]
theorem ext_load {o z : Value} {x : Addr} {obj : Obj} {W : World} {c : Int} (ho : ∀ E, den σ E o = .pointer (some x)) (hz : Den σ z c) (hx : (x.block, obj) ∈ σ.x) (hW : W.heap[x.block]? = some obj) (hc : W.cell? x = some (.int .i64 c)) : ExtOk σ ⟨0, 3, [o], z⟩ := by
  intro ρ o' w E ht hv hext
  obtain ⟨dst, op, type, pos, after, guard⟩ := o'
  obtain ⟨u, rfl⟩ := tag_load ht
  have hv : ρ u = den σ E o := by simpa [Op.operands] using hv
  have hcell : w.cell? x = some (.int .i64 c) := by
    rw [← hc]
    unfold World.cell?
    rw [hW, hext _ hx]
  have ha : (isAgg 3).run Try.prog w = .ok false w := (tab_plain (σ := σ)).agg (t := 3) (y := ⟨Try.t3, Try.t3.desc, false⟩) (by kernel_rfl) w
  have hr : (Instr.loadAt 3 (.pointer (some x))).run Try.prog w = .ok (.int .i64 c) w := by
    simp only [Instr.loadAt, Instr.sureAddr, Sem.run_bind, Sem.run_pure, Result.andThen_ok, loadVar, ha, Bool.false_eq_true, if_false, run_load, hcell]
  simp only [execOp, hv, ho E, hz E, Sem.run_bind, hr, Result.andThen_ok, Sem.run_pure]
end
end Go.Proofs.Ytjcjnmphneafoaa
