/-
  TableAlike: types held against each other; rows.
-/
import Derived.Test.YthfefeekfidfoaaFit
namespace Go.Proofs.Ythfefeekfidfoaa
open Go Go.Proofs.Ythfefeekfidfoaa.Sx
open Go.RowKit
noncomputable def T0 : Tab := tabW [] [] [] [] []
noncomputable def fs23 : List Field := match Try.t23.desc with
  | .struct fs => fs.toList
  | _ => []
theorem d23 : Try.t23.desc = .struct fs23.toArray := by kernel_rfl
theorem m23 : fs23.map (fun f => (f.type, f.offset)) = [(3, 0), (3, 1), (3, 2), (9, 3)] := by kernel_rfl
theorem e24 : T0.ty.get 24 = some ⟨Try.t24, Try.t23.desc, true⟩ := by kernel_rfl
theorem e3 : T0.ty.get 3 = some ⟨Try.t3, .int .i64, false⟩ := by kernel_rfl
theorem e9 : T0.ty.get 9 = some ⟨Try.t9, .string, false⟩ := by kernel_rfl
/-- a type, as it lies in memory -/
structure Ty4 where
  k : Int
  lo : Int
  hi : Int
  s : ByteArray
def Ty4.cells (t : Ty4) : List Value := [.int .i64 t.k, .int .i64 t.lo, .int .i64 t.hi, .string t.s]
def Ty4.eq (t u : Ty4) : Bool := (t.k == u.k) && ((t.lo == u.lo) && ((t.hi == u.hi) && (t.s.toList == u.s.toList)))
theorem Ty4.eq_self (t : Ty4) : t.eq t = true := by simp [Ty4.eq]
theorem Ty4.eq_comm (t u : Ty4) : t.eq u = u.eq t := by
  unfold Ty4.eq
  rw [Bool.beq_comm (a := t.k), Bool.beq_comm (a := t.lo), Bool.beq_comm (a := t.hi), Bool.beq_comm (a := t.s.toList)]
theorem eqE_int (d : Nat) (a b : Int) : eqE T0 (d + 1) 3 (.int .i64 a) (.int .i64 b) = some (a == b) := by
  simp only [eqE, e3, intEqE_eq]
  rfl
theorem eqE_str (d : Nat) (a b : ByteArray) : eqE T0 (d + 1) 9 (.string a) (.string b) = some (a.toList == b.toList) := by
  simp only [eqE, e9, bytesEq_eq]
theorem eqE_ty (t u : Ty4) : eqE T0 20 24 (.agg t.cells.toArray) (.agg u.cells.toArray) = some (t.eq u) := by
  obtain ⟨f0, f1, f2, f3, hf⟩ : ∃ f0 f1 f2 f3, fs23 = [f0, f1, f2, f3] := by
    have h := congrArg List.length m23
    rw [List.length_map] at h
    match hfs : fs23, h with
    | [f0, f1, f2, f3], _ => exact ⟨f0, f1, f2, f3, rfl⟩
  have hm := m23
  rw [hf] at hm
  simp only [List.map_cons, List.map_nil, List.cons.injEq, Prod.mk.injEq, and_true] at hm
  obtain ⟨⟨a0, b0⟩, ⟨a1, b1⟩, ⟨a2, b2⟩, ⟨a3, b3⟩⟩ := hm
  have hd := d23
  rw [hf] at hd
  rw [eqE]
  simp only [e24, hd]
  simp only [eqFs, partE, a0, a1, a2, a3, b0, b1, b2, b3, e3, e9, isAggD, Ty4.cells, List.getElem?_cons_zero, List.getElem?_cons_succ, eqE_int, eqE_str, cond_true]
  unfold Ty4.eq
  cases t.k == u.k <;> cases t.lo == u.lo <;> cases t.hi == u.hi <;> cases t.s.toList == u.s.toList <;> rfl
section
variable {σ : Sg}
theorem rel0 {w : World} (h : ∀ p ∈ σ.x, w.heap[p.1]? = some p.2) : Rel σ E00 ⟨.nil, 1⟩ w :=
  ⟨fun b o hb => (by simp [Hp.get, Tr.get_nil] at hb), fun b b' hb => (by simp [Hp.get, Tr.get_nil] at hb), fun b o hb => (by simp [Hp.get, Tr.get_nil] at hb), fun b o hb => (by simp [Hp.get, Tr.get_nil] at hb), fun p hp => ⟨h p hp, fun b hb => (by simp [Hp.get, Tr.get_nil] at hb)⟩⟩
theorem den_ty (t : Ty4) (E : Env) : den σ E (.agg t.cells.toArray) = .agg t.cells.toArray := by
  rw [den_agg]
  simp [Ty4.cells, den_int, den_string]
theorem ext_eql {x y : Value} {t u : Ty4} {r : Bool} (hx : ∀ E, den σ E x = .agg t.cells.toArray) (hy : ∀ E, den σ E y = .agg u.cells.toArray) (h : t.eq u = r) : ExtOk σ ⟨10, 24, [x, y], .bool r⟩ := by
  intro ρ o w E ht hv hext
  obtain ⟨p, q, z, ho⟩ := tag_eql ht
  have hv2 : o.op.operands.toList.map ρ = [Value.agg t.cells.toArray, Value.agg u.cells.toArray].map (den σ E00) := by
    rw [hv]
    simp only [List.map_cons, List.map_nil, hx E, hy E, den_ty]
  have hr := pure0_sound (tb := T0) (P := Try.prog) (tab_plain (σ := σ)) (rel0 hext) hv2 (v := .bool r) (by
    rw [ho]
    show nilE T0 .eql 24 p q (.agg t.cells.toArray) (.agg u.cells.toArray) = _
    simp only [nilE, binE, binE0, eqE_ty, h])
  rw [hr, den_bool, den_bool]
theorem ext_neq {x y : Value} {t u : Ty4} {r : Bool} (hx : ∀ E, den σ E x = .agg t.cells.toArray) (hy : ∀ E, den σ E y = .agg u.cells.toArray) (h : t.eq u = r) : ExtOk σ ⟨11, 24, [x, y], .bool (!r)⟩ := by
  intro ρ o w E ht hv hext
  obtain ⟨p, q, z, ho⟩ := tag_neq ht
  have hv2 : o.op.operands.toList.map ρ = [Value.agg t.cells.toArray, Value.agg u.cells.toArray].map (den σ E00) := by
    rw [hv]
    simp only [List.map_cons, List.map_nil, hx E, hy E, den_ty]
  have hr := pure0_sound (tb := T0) (P := Try.prog) (tab_plain (σ := σ)) (rel0 hext) hv2 (v := .bool (!r)) (by
    rw [ho]
    show nilE T0 .neq 24 p q (.agg t.cells.toArray) (.agg u.cells.toArray) = _
    simp only [nilE, binE, binE0, eqE_ty, h])
  rw [hr, den_bool, den_bool]
theorem eq2_ok {a b : Nat} {t u : Ty4} {r : Bool} (hx : ∀ E, den σ E (tyO a) = .agg t.cells.toArray) (hy : ∀ E, den σ E (tyO b) = .agg u.cells.toArray) (h : t.eq u = r) : ∀ e ∈ eq2 a b r, ExtOk σ e :=
  cons_mem (ext_eql hx hy h) (cons_mem (ext_neq hx hy h) nil_mem)
end
end Go.Proofs.Ythfefeekfidfoaa
