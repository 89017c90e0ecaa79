/-
  Runs of closed code: operations that make a value and leave memory alone (2).
-/
import Derived.Test.YtnjfbcoddbeggaaSx3
namespace Go.Proofs.Ytnjfbcoddbeggaa.Sx
open Go
variable {σ : Sg}

section
variable {P : Program} {tb : Tab} {E : Env} {H : Hp} {w : World}

/-! ### load -/
noncomputable def loadE (tb : Tab) (H : Hp) (t : TypeId) : Value → Option Value
  | .pointer (some ⟨b, off, none⟩) => match tb.ty.get t, H.cells b with
    | some y, some c => (match isAggD y.desc with
      | true => bif Nat.ble (off + y.info.size) c.length then some (.agg ((c.drop off).take y.info.size).toArray) else none
      | false => c[off]?)
    | _, _ => none
  | _ => none
theorem load_sound (htb : tb.Ok σ P) (h : Rel σ E H w) {t : TypeId} {x v : Value} (he : loadE tb H t x = some v) : (Instr.loadAt t (den σ E x)).run P w = .ok (den σ E v) w := by
  unfold loadE at he
  split at he
  · rename_i b off
    cases hy : tb.ty.get t with
    | none => rw [hy] at he; cases he
    | some y =>
      cases hc : H.cells b with
      | none => rw [hy, hc] at he; cases he
      | some c =>
        rw [hy, hc] at he
        dsimp only at he
        simp only [Instr.loadAt, den_pointer, Instr.sureAddr, Sem.run_bind, Sem.run_pure, Result.andThen_ok, loadVar, htb.agg hy]
        cases hd : isAggD y.desc with
        | true =>
          rw [hd] at he
          dsimp only at he
          cases hl : Nat.ble (off + y.info.size) c.length with
          | false => rw [hl] at he; cases he
          | true =>
            rw [hl] at he
            have hl := Nat.le_of_ble_eq_true hl
            cases he
            simp only [if_true, Sem.run_bind, htb.size hy, Result.andThen_ok, loadCells]
            rw [run_loadCells h hc off y.info.size 0 #[] (by omega)]
            simp only [Result.andThen_ok, Sem.run_pure, den_agg]
            congr 2
            simp
        | false =>
          rw [hd] at he
          dsimp only at he
          simp only [Bool.false_eq_true, if_false, run_load, h.cell hc he]
  · cases he

/-! ### places -/
noncomputable def fieldAddrE (tb : Tab) (s : TypeId) (f : Nat) : Value → Option Value
  | .pointer (some ⟨b, off, none⟩) => match tb.ty.get s with
    | some y => (match y.desc with
      | .struct fs => (match fs[f]? with
        | some fd => (match tb.ty.get fd.type with
          | some z => bif Nat.beq z.info.size 0 then none else some (.pointer (some ⟨b, off + fd.offset, none⟩))
          | none => none)
        | none => none)
      | _ => none)
    | none => none
  | _ => none
theorem fieldAddr_sound (htb : tb.Ok σ P) {s : TypeId} {f : Nat} {x v : Value} (he : fieldAddrE tb s f x = some v) : (Instr.fieldAt s (den σ E x) f).run P w = .ok (den σ E v) w := by
  unfold fieldAddrE at he
  split at he
  · rename_i b off
    cases hy : tb.ty.get s with
    | none => rw [hy] at he; cases he
    | some y =>
      rw [hy] at he
      dsimp only at he
      have hu := htb.under hy w
      split at he
      · rename_i fs hd
        rw [hd] at hu
        cases hf : fs[f]? with
        | none => rw [hf] at he; cases he
        | some fd =>
          rw [hf] at he
          dsimp only at he
          cases hz : tb.ty.get fd.type with
          | none => rw [hz] at he; cases he
          | some z =>
            rw [hz] at he
            dsimp only at he
            cases hs : Nat.beq z.info.size 0 with
            | true => rw [hs] at he; cases he
            | false =>
              rw [hs] at he
              have hs := Nat.ne_of_beq_eq_false hs
              cases he
              simp only [Instr.fieldAt, Sem.run_bind, hu, Result.andThen_ok, hf, den_pointer, Instr.sureAddr, Sem.run_pure, fieldPlace, htb.size hz, if_neg hs, Addr.add_mk]
      · cases he
  · cases he

noncomputable def indexAddrE (tb : Tab) (t : TypeId) : Value → Value → Option Value
  | x, .int _ (.ofNat i) => match tb.ty.get t with
    | some y => (match y.desc, x with
      | .slice e, .slice (some ⟨b, off, none⟩) len _ => (match tb.ty.get e with
        | some z => bif Nat.blt i len then some (.pointer (some ⟨b, off + i * z.info.size, none⟩)) else none
        | none => none)
      | .array len e, .pointer (some ⟨b, off, none⟩) => (match tb.ty.get e with
        | some z => bif Nat.blt i len then some (.pointer (some ⟨b, off + i * z.info.size, none⟩)) else none
        | none => none)
      | _, _ => none)
    | none => none
  | _, _ => none
theorem indexAddr_sound (htb : tb.Ok σ P) {t : TypeId} {x i v : Value} (he : indexAddrE tb t x i = some v) : (Instr.indexAt t (den σ E x) (den σ E i)).run P w = .ok (den σ E v) w := by
  unfold indexAddrE at he
  split at he
  · rename_i k i
    cases hy : tb.ty.get t with
    | none => rw [hy] at he; cases he
    | some y =>
      rw [hy] at he
      dsimp only at he
      have hu := htb.under hy w
      split at he
      · rename_i e b off len cap hd
        rw [hd] at hu
        cases hz : tb.ty.get e with
        | none => rw [hz] at he; cases he
        | some z =>
          rw [hz] at he
          dsimp only at he
          cases hl : Nat.blt i len with
          | false => rw [hl] at he; cases he
          | true =>
            rw [hl] at he
            have hl : i < len := by simpa [Nat.blt_eq] using hl
            cases he
            simp [Instr.indexAt, den_int, asIntOf, hu, den_slice, hl, htb.size hz, Addr.add_mk, den_pointer]
      · rename_i len e b off hd
        rw [hd] at hu
        cases hz : tb.ty.get e with
        | none => rw [hz] at he; cases he
        | some z =>
          rw [hz] at he
          dsimp only at he
          cases hl : Nat.blt i len with
          | false => rw [hl] at he; cases he
          | true =>
            rw [hl] at he
            have hl : i < len := by simpa [Nat.blt_eq] using hl
            cases he
            simp [Instr.indexAt, den_int, asIntOf, hu, Instr.sureAddr, hl, htb.size hz, Addr.add_mk, den_pointer]
      · cases he
  · cases he

/-! ### parts of values -/
noncomputable def fieldE (tb : Tab) (t : TypeId) (f : Nat) : Value → Option Value
  | .agg cs => match tb.ty.get t with
    | some y => (match y.desc with
      | .struct fs => (match fs[f]? with
        | some fd => partE tb fd.type cs.toList fd.offset
        | none => none)
      | _ => none)
    | none => none
  | _ => none
theorem field_sound (htb : tb.Ok σ P) {t : TypeId} {f : Nat} {x v : Value} (he : fieldE tb t f x = some v) : (Instr.field t (den σ E x) f).run P w = .ok (den σ E v) w := by
  unfold fieldE at he
  split at he
  · rename_i cs
    cases hy : tb.ty.get t with
    | none => rw [hy] at he; cases he
    | some y =>
      rw [hy] at he
      dsimp only at he
      have hu := htb.under hy w
      split at he
      · rename_i fs hd
        rw [hd] at hu
        cases hf : fs[f]? with
        | none => rw [hf] at he; cases he
        | some fd =>
          rw [hf] at he
          dsimp only at he
          have := run_part htb he (E := E) w
          simp only [Instr.field, Sem.run_bind, hu, Result.andThen_ok, hf, den_agg, asAgg, Sem.run_pure]
          rw [← this]
          congr 2
          simp [← List.map_toArray]
      · cases he
  · cases he

noncomputable def indexE (tb : Tab) (t : TypeId) : Value → Value → Option Value
  | x, .int _ (.ofNat i) => match tb.ty.get t with
    | some y => (match y.desc, x with
      | .array len e, .agg cs => (match tb.ty.get e with
        | some z => bif Nat.blt i len then partE tb e cs.toList (i * z.info.size) else none
        | none => none)
      | .string, .string s => (match s.data.toList[i]? with
        | some b => some (.int .u8 (.ofNat b.toNat))
        | none => none)
      | _, _ => none)
    | none => none
  | _, _ => none
theorem index_sound (htb : tb.Ok σ P) {t : TypeId} {x i v : Value} (he : indexE tb t x i = some v) : (Instr.index t (den σ E x) (den σ E i)).run P w = .ok (den σ E v) w := by
  unfold indexE at he
  split at he
  · rename_i k i
    cases hy : tb.ty.get t with
    | none => rw [hy] at he; cases he
    | some y =>
      rw [hy] at he
      dsimp only at he
      have hu := htb.under hy w
      split at he
      · rename_i len e cs hd
        rw [hd] at hu
        cases hz : tb.ty.get e with
        | none => rw [hz] at he; cases he
        | some z =>
          rw [hz] at he
          dsimp only at he
          cases hl : Nat.blt i len with
          | false => rw [hl] at he; cases he
          | true =>
            rw [hl] at he
            have hl : i < len := by simpa [Nat.blt_eq] using hl
            have := run_part htb he (E := E) w
            simp [Instr.index, den_int, asIntOf, hu, den_agg, hl, htb.size hz]
            rw [← this]
            congr 2
            simp [← List.map_toArray]
      · rename_i s hd
        rw [hd] at hu
        cases hb : s.data.toList[i]? with
        | none => rw [hb] at he; cases he
        | some b =>
          rw [hb] at he
          cases he
          have hb' : s[i]? = some b := by
            rw [← hb]
            have hs : s.size = s.data.toList.length := rfl
            by_cases hl : i < s.size
            · rw [getElem?_pos s i hl, List.getElem?_eq_getElem (by omega)]
              simp [ByteArray.getElem_eq_getElem_data]
            · rw [getElem?_neg s i hl, List.getElem?_eq_none (by omega)]
          simp [Instr.index, den_int, den_string, asIntOf, hu, hb']
      · cases he
  · cases he

/-! ### operators -/
noncomputable def isC : Operand → Bool
  | .const _ => true
  | _ => false
noncomputable def binE0 (tb : Tab) (op : BinOp) (t : TypeId) (x y : Value) : Option Value :=
  match x, y with
  | .int k a, .int k' b => (match op with
    | .shl => (match b with
      | .ofNat n => some (.int k (wrapE k (a * 2 ^ (min n k.bits))))
      | _ => none)
    | .shr => (match b with
      | .ofNat n => some (.int k (a.fdiv (2 ^ (min n k.bits))))
      | _ => none)
    | op => bif kindEq k k' then (match op with
      | .add => some (.int k (wrapE k (a + b)))
      | .sub => some (.int k (wrapE k (a - b)))
      | .mul => some (.int k (wrapE k (a * b)))
      | .quo => (match intEqE b 0 with
        | true => none
        | false => some (.int k (wrapE k (a.tdiv b))))
      | .rem => (match intEqE b 0 with
        | true => none
        | false => some (.int k (a.tmod b)))
      | .and => some (.int k (k.wrap (BitVec.ofInt k.bits a &&& BitVec.ofInt k.bits b).toNat))
      | .or => some (.int k (k.wrap (BitVec.ofInt k.bits a ||| BitVec.ofInt k.bits b).toNat))
      | .xor => some (.int k (k.wrap (BitVec.ofInt k.bits a ^^^ BitVec.ofInt k.bits b).toNat))
      | .eql => some (.bool (intEqE a b))
      | .neq => some (.bool (!intEqE a b))
      | .lss => some (.bool (intLtE a b))
      | .leq => some (.bool (!intLtE b a))
      | .gtr => some (.bool (intLtE b a))
      | .geq => some (.bool (!intLtE a b))
      | _ => none) else none)
  | .string a, .string b => (match op with
    | .add => bif Nat.ble (a.size + b.size) 1000000 then some (.string (a ++ b)) else none
    | .eql => some (.bool (bytesEq a b))
    | .neq => some (.bool (!bytesEq a b))
    | .lss => some (.bool (Op.bytesLess a.toList b.toList))
    | _ => none)
  | x, y => (match op with
    | .eql => (match eqE tb 20 t x y with
      | some r => some (.bool r)
      | none => none)
    | .neq => (match eqE tb 20 t x y with
      | some r => some (.bool (!r))
      | none => none)
    | _ => none)

theorem decide_le_lt (a b : Int) : decide (a ≤ b) = !decide (b < a) := by
  by_cases h : a ≤ b
  · simp [h, Int.not_lt.2 h]
  · simp [h, Int.not_le.1 h]

theorem bin_int {op : BinOp} {t : TypeId} {k k' : IntKind} {a b : Int} {v : Value} (he : binE0 tb op t (.int k a) (.int k' b) = some v) : (binOp op t (.int k a) (.int k' b)).run P w = .ok v w ∧ ∃ r, v = .bool r ∨ ∃ k n, v = .int k n := by
  unfold binE0 at he
  dsimp only at he
  cases op
  case shl =>
    dsimp only at he
    split at he
    · rename_i n
      cases he
      refine ⟨?_, false, .inr ⟨_, _, rfl⟩⟩
      simp [binOp, Op.shift, wrapE_eq, show ¬ ((n : Int) < 0) by omega]
    · cases he
  case shr =>
    dsimp only at he
    split at he
    · rename_i n
      cases he
      refine ⟨?_, false, .inr ⟨_, _, rfl⟩⟩
      simp [binOp, Op.shift, show ¬ ((n : Int) < 0) by omega]
    · cases he
  all_goals
    dsimp only at he
    cases hk : kindEq k k' with
    | false => rw [hk] at he; cases he
    | true =>
      rw [hk] at he
      cases kindEq_eq hk
      dsimp only [cond_true] at he
      first
        | (cases he; done)
        | (cases he; exact ⟨by simp [binOp, Op.intArith, Op.intBits, Op.intCmp, wrapE_eq, intEqE_eq, intLtE_eq, decide_le_lt, bne], false, .inr ⟨_, _, rfl⟩⟩)
        | (cases he; exact ⟨by simp [binOp, Op.intCmp, intEqE_eq, intLtE_eq, decide_le_lt, bne], _, .inl rfl⟩)
        | (split at he
           · cases he
           · rename_i hz
             rw [intEqE_eq] at hz
             have hz : ¬ b = 0 := by simpa using hz
             cases he
             exact ⟨by simp [binOp, Op.intDiv, wrapE_eq, hz], false, .inr ⟨_, _, rfl⟩⟩)
end
end Go.Proofs.Ytnjfbcoddbeggaa.Sx
