/-
  TableAlike: what the program makes of what lies outside.
-/
import Derived.Test.YthfefeekfidfoaaAwake
import Derived.Laws.Cells
import Derived.ProofKit
namespace Go.Proofs.Ythfefeekfidfoaa
open Go Go.Proofs.Ythfefeekfidfoaa.Sx
open Go.RowKit
section
variable {σ : Sg}
def Den (σ : Sg) (v : Value) (a : Int) : Prop := ∀ E, den σ E v = .int .i64 a
theorem den_x (i : Nat) : Den σ (xN i) (σ.n i) := fun E => den_sym E i
theorem den_i (n : Nat) : Den σ (iN n) n := fun E => den_int E _ _
def OrcOk (σ : Sg) (e : Orc) : Prop := flatV e.v = true ∧ ∃ a b, (∀ E, den σ E e.x = .int .i64 a) ∧ (∀ E, den σ E e.y = .int .i64 b) ∧ intB e.op .i64 a b = some (den σ E00 e.v)
def CtrOk (σ : Sg) (e : Ctr) : Prop := flatV e.v = true ∧ e.args.all flatV = true ∧ ∀ w, Calls Try.prog e.f (e.args.map (den σ E00)).toArray w fun r w' => r = .returned (den σ E00 e.v) ∧ Below w.heap.size w w'
def ExtOk (σ : Sg) (e : Xo) : Prop := ∀ (ρ : Operand → Value) (o : Oper) (w : World) (E : Env), tagOf o.op = some (e.tag, e.t) → o.op.operands.toList.map ρ = e.vs.map (den σ E) → (∀ p ∈ σ.x, w.heap[p.1]? = some p.2) →
    (execOp ρ o).run Try.prog w = .ok (.value (den σ E e.v)) w
def SrcOk (σ : Sg) (e : Sr) : Prop := e.l.length = e.n * e.size ∧ (∀ w, (Builtin.lenOf (σ.v e.i)).run Try.prog w = .ok e.n w) ∧ ∀ E w, (∀ p ∈ σ.x, w.heap[p.1]? = some p.2) → (Builtin.firstCells e.size e.n (σ.v e.i)).run Try.prog w = .ok (e.l.map (den σ E)).toArray w
theorem orc_gtr {x y : Value} {a b : Int} {r : Bool} (hx : Den σ x a) (hy : Den σ y b) (h : decide (a > b) = r) : OrcOk σ ⟨.gtr, x, y, .bool r⟩ :=
  ⟨rfl, a, b, hx, hy, by
    show some (Value.bool (decide (a > b))) = _
    rw [den_bool, h]⟩
def sg0 : Sg := ⟨fun _ => 0, fun _ => .nilFunc, [], fun _ => rfl, fun _ => rfl⟩
theorem awakeC_ok : CtrOk σ awakeC :=
  ⟨rfl, rfl, fun w => by
    have h := calls_isS (σ := sg0) tab_plain awake_run rfl rfl w nil_mem
    rw [den_bool] at h
    show Calls Try.prog 4 #[] w fun r w' => r = .returned (den σ E00 (.bool true)) ∧ Below w.heap.size w w'
    rw [den_bool]
    exact h⟩

/-! ### Which operation is asked -/
theorem bin_ne {op : BinOp} {n : Nat} (h : n < 10 ∨ 14 < n) : binTag op ≠ n := by
  cases op <;> simp [binTag] <;> omega
theorem tag_of {op : Op} {a : Nat} {t : TypeId} (h : tagOf op = some (a, t)) :
    (a = 0 ∧ ∃ x, op = .load t x) ∨ (a = 1 ∧ ∃ x i, op = .indexAddr t x i) ∨ (a = 2 ∧ ∃ args ts, op = .call ⟨.builtin .len, args, ts⟩ ∧ ts[0]? = some t) ∨
    (∃ b x y u, op = .binOp b t x y u ∧ a = binTag b) ∨ (a = 20 ∧ t = 0 ∧ ∃ x u, op = .unOp .not x u) ∨ (∃ x f, op = .fieldAddr t x f ∧ a = 30 + f) := by
  cases op with
  | load u x => cases h; exact .inl ⟨rfl, x, rfl⟩
  | indexAddr u x i => cases h; exact .inr (.inl ⟨rfl, x, i, rfl⟩)
  | binOp b u x y z => cases h; exact .inr (.inr (.inr (.inl ⟨b, x, y, z, rfl, rfl⟩)))
  | unOp o x u =>
    cases o <;> first
      | (cases h; done)
      | (cases h; exact .inr (.inr (.inr (.inr (.inl ⟨rfl, rfl, x, u, rfl⟩)))))
  | fieldAddr u x f => cases h; exact .inr (.inr (.inr (.inr (.inr ⟨x, f, rfl, rfl⟩))))
  | call c =>
    obtain ⟨callee, args, ts⟩ := c
    cases callee with
    | builtin b =>
      cases b <;> simp only [tagOf] at h <;> (try (cases h; done))
      cases hts : ts[0]? with
      | none => rw [hts] at h; cases h
      | some u => rw [hts] at h; cases h; exact .inr (.inr (.inl ⟨rfl, args, ts, rfl, hts⟩))
    | _ => cases h
  | _ => cases h
theorem tag_load {op : Op} {t : TypeId} (h : tagOf op = some (0, t)) : ∃ x, op = .load t x := by
  rcases tag_of h with h | h | h | ⟨b, _, _, _, _, h⟩ | h | ⟨_, _, _, h⟩
  · exact h.2
  · exact absurd h.1 (by decide)
  · exact absurd h.1 (by decide)
  · exact absurd h.symm (bin_ne (by omega))
  · exact absurd h.1 (by decide)
  · omega
theorem tag_idx {op : Op} {t : TypeId} (h : tagOf op = some (1, t)) : ∃ x i, op = .indexAddr t x i := by
  rcases tag_of h with h | h | h | ⟨b, _, _, _, _, h⟩ | h | ⟨_, _, _, h⟩
  · exact absurd h.1 (by decide)
  · exact h.2
  · exact absurd h.1 (by decide)
  · exact absurd h.symm (bin_ne (by omega))
  · exact absurd h.1 (by decide)
  · omega
theorem tag_len {op : Op} {t : TypeId} (h : tagOf op = some (2, t)) : ∃ args ts, op = .call ⟨.builtin .len, args, ts⟩ ∧ ts[0]? = some t := by
  rcases tag_of h with h | h | h | ⟨b, _, _, _, _, h⟩ | h | ⟨_, _, _, h⟩
  · exact absurd h.1 (by decide)
  · exact absurd h.1 (by decide)
  · exact h.2
  · exact absurd h.symm (bin_ne (by omega))
  · exact absurd h.1 (by decide)
  · omega
theorem tag_not {op : Op} {t : TypeId} (h : tagOf op = some (20, t)) : ∃ x u, op = .unOp .not x u := by
  rcases tag_of h with h | h | h | ⟨b, _, _, _, _, h⟩ | h | ⟨_, _, _, h⟩
  · exact absurd h.1 (by decide)
  · exact absurd h.1 (by decide)
  · exact absurd h.1 (by decide)
  · exact absurd h.symm (bin_ne (by omega))
  · exact h.2.2
  · omega
theorem tag_field {op : Op} {t : TypeId} (h : tagOf op = some (31, t)) : ∃ x, op = .fieldAddr t x 1 := by
  rcases tag_of h with h | h | h | ⟨b, _, _, _, _, h⟩ | h | ⟨x, f, e, h⟩
  · exact absurd h.1 (by decide)
  · exact absurd h.1 (by decide)
  · exact absurd h.1 (by decide)
  · exact absurd h.symm (bin_ne (by omega))
  · exact absurd h.1 (by decide)
  · obtain rfl : f = 1 := by omega
    exact ⟨x, e⟩
theorem tag_eql {op : Op} {t : TypeId} (h : tagOf op = some (10, t)) : ∃ x y u, op = .binOp .eql t x y u := by
  rcases tag_of h with h | h | h | ⟨b, x, y, u, e, h⟩ | h | ⟨_, _, _, h⟩
  · exact absurd h.1 (by decide)
  · exact absurd h.1 (by decide)
  · exact absurd h.1 (by decide)
  · cases b <;> simp [binTag] at h
    exact ⟨x, y, u, e⟩
  · exact absurd h.1 (by decide)
  · omega
theorem tag_neq {op : Op} {t : TypeId} (h : tagOf op = some (11, t)) : ∃ x y u, op = .binOp .neq t x y u := by
  rcases tag_of h with h | h | h | ⟨b, x, y, u, e, h⟩ | h | ⟨_, _, _, h⟩
  · exact absurd h.1 (by decide)
  · exact absurd h.1 (by decide)
  · exact absurd h.1 (by decide)
  · cases b <;> simp [binTag] at h
    exact ⟨x, y, u, e⟩
  · exact absurd h.1 (by decide)
  · omega

/-! ### What it makes -/
theorem ext_len {o z : Value} {a : Option Addr} {len cap : Nat} {c : Int} (ho : ∀ E, den σ E o = .slice a len cap) (hz : Den σ z c) (h : c = len) : ExtOk σ ⟨2, 22, [o], z⟩ := by
  intro ρ o' w E ht hv _
  obtain ⟨dst, op, type, pos, after, guard⟩ := o'
  obtain ⟨args, ts, rfl, hts⟩ := tag_len ht
  have hv : args.toList.map ρ = [o].map (den σ E) := by simpa [Op.operands, Call.operands] using hv
  have hargs := args_eq (E := E) hv
  simp only [execOp, resolve, hargs, Sem.run_bind, Sem.run_pure, Result.andThen_ok, invoke, builtin]
  simp only [List.map_cons, List.map_nil, ho E, hz E]
  have : (Builtin.len_ ts type #[.slice a len cap]).run Try.prog w = .ok (.int .i64 c) w := by
    subst h
    simp [Builtin.len_, hts, goInt]
  rw [this]
  rfl
theorem ext_slen {o z : Value} {s : ByteArray} {c : Int} (ho : ∀ E, den σ E o = .string s) (hz : Den σ z c) (h : c = s.size) : ExtOk σ ⟨2, 9, [o], z⟩ := by
  intro ρ o' w E ht hv _
  obtain ⟨dst, op, type, pos, after, guard⟩ := o'
  obtain ⟨args, ts, rfl, hts⟩ := tag_len ht
  have hv : args.toList.map ρ = [o].map (den σ E) := by simpa [Op.operands, Call.operands] using hv
  have hargs := args_eq (E := E) hv
  simp only [execOp, resolve, hargs, Sem.run_bind, Sem.run_pure, Result.andThen_ok, invoke, builtin]
  simp only [List.map_cons, List.map_nil, ho E, hz E]
  have : (Builtin.len_ ts type #[.string s]).run Try.prog w = .ok (.int .i64 c) w := by
    subst h
    simp [Builtin.len_, hts, goInt]
  rw [this]
  rfl
theorem ext_idx {o z : Value} {x : Addr} {len cap i : Nat} (ho : ∀ E, den σ E o = .slice (some x) len cap) (hz : ∀ E, den σ E z = .pointer (some (x.add (8 * i)))) (h : i < len) : ExtOk σ ⟨1, 22, [o, iN i], z⟩ := by
  intro ρ o' w E ht hv _
  obtain ⟨dst, op, type, pos, after, guard⟩ := o'
  obtain ⟨u, k, rfl⟩ := tag_idx ht
  have hv : ρ u = den σ E o ∧ ρ k = den σ E (iN i) := by simpa [Op.operands] using hv
  have hr : (Instr.indexAt 22 (.slice (some x) len cap) (.int .i64 (i : Int))).run Try.prog w = .ok (.pointer (some (x.add (8 * i)))) w := by
    rw [Nat.mul_comm 8 i]
    simp [Instr.indexAt, asIntOf, h]
  simp only [execOp, hv.1, hv.2, ho E, den_i i E, hz E, Sem.run_bind, hr, Result.andThen_ok, Sem.run_pure]
theorem ext_load {t : TypeId} {y : Ty} {o z : Value} {x : Addr} {obj : Obj} {W : World} {cs : List Value} (hy : ∀ l, (tabW [] [] [] [] l).ty.get t = some y) (ha : isAggD y.desc = true) (hn : cs.length = y.info.size)
    (ho : ∀ E, den σ E o = .pointer (some x)) (hz : ∀ E, den σ E z = .agg cs.toArray) (hx : (x.block, obj) ∈ σ.x) (hW : W.heap[x.block]? = some obj) (hc : ∀ j v, cs[j]? = some v → W.cell? (x.add j) = some v) : ExtOk σ ⟨0, t, [o], z⟩ := by
  intro ρ o' w E ht hv hext
  obtain ⟨dst, op, type, pos, after, guard⟩ := o'
  obtain ⟨u, rfl⟩ := tag_load ht
  have hv : ρ u = den σ E o := by simpa [Op.operands] using hv
  have hcell : ∀ j v, cs[j]? = some v → w.cell? (x.add j) = some v := by
    intro j v h
    rw [← hc j v h]
    have eb : (x.add j).block = x.block := by unfold Addr.add; split <;> rfl
    unfold World.cell?
    rw [eb, hW, hext _ hx]
  have h1 : (isAgg t).run Try.prog w = .ok true w := by rw [← ha]; exact (tab_plain (σ := σ)).agg (t := t) (hy []) w
  have h2 : (sizeOf t).run Try.prog w = .ok cs.length w := by rw [hn]; exact (tab_plain (σ := σ)).size (t := t) (hy []) w
  have hr : (Instr.loadAt t (.pointer (some x))).run Try.prog w = .ok (.agg cs.toArray) w := by
    simp only [Instr.loadAt, Instr.sureAddr, Sem.run_bind, Sem.run_pure, Result.andThen_ok, loadVar, h1, if_true, h2, run_loadCells_list w x cs hcell]
  simp only [execOp, hv, ho E, hz E, Sem.run_bind, hr, Result.andThen_ok, Sem.run_pure]
theorem ext_field {o z : Value} {x : Addr} (ho : ∀ E, den σ E o = .pointer (some x)) (hz : ∀ E, den σ E z = .pointer (some (x.add 1))) : ExtOk σ ⟨31, 30, [o], z⟩ := by
  intro ρ o' w E ht hv _
  obtain ⟨dst, op, type, pos, after, guard⟩ := o'
  obtain ⟨u, rfl⟩ := tag_field ht
  have hv : ρ u = den σ E o := by simpa [Op.operands] using hv
  have hr : (Instr.fieldAt 30 (.pointer (some x)) 1).run Try.prog w = .ok (.pointer (some (x.add 1))) w := by
    simp [Instr.fieldAt, Instr.sureAddr, fieldPlace]
  simp only [execOp, hv, ho E, hz E, Sem.run_bind, hr, Result.andThen_ok, Sem.run_pure]
theorem ext_not {o z : Value} {b : Bool} (ho : ∀ E, den σ E o = .bool b) (hz : ∀ E, den σ E z = .bool (!b)) : ExtOk σ ⟨20, 0, [o], z⟩ := by
  intro ρ o' w E ht hv _
  obtain ⟨dst, op, type, pos, after, guard⟩ := o'
  obtain ⟨_k, u, rfl⟩ := tag_not ht
  have hv : ρ u = den σ E o := by simpa [Op.operands] using hv
  have hr : (Op.unary .not (.bool b)).run Try.prog w = .ok (.bool (!b)) w := by simp [Op.unary]
  simp only [execOp, hv, ho E, hz E, Sem.run_bind, hr, Result.andThen_ok, Sem.run_pure]
end
end Go.Proofs.Ythfefeekfidfoaa
