/-
  Runs of closed code: one operation, of whatever kind; temporaries.
-/
import Derived.Test.YtnjfbcoddbeggaaSx11
namespace Go.Proofs.Ytnjfbcoddbeggaa.Sx
open Go
variable {σ : Sg}

section
variable {P : Program} {tb : Tab} {E : Env} {H : Hp} {w : World}

/-- an operation that writes: its value (none: it has none), and memory behind it -/
noncomputable def heapE (tb : Tab) (H : Hp) (op : Op) (vs : List Value) : Option (Option Value × Hp) :=
  match op with
  | .store t _ _ => (match vs with
    | [a, v] => (match storeE tb H t a v with
      | some H' => some (none, H')
      | none => none)
    | _ => none)
  | .mapUpdate t _ _ _ => (match vs with
    | [m, k, v] => (match mapUpdE tb H t m k v with
      | some H' => some (none, H')
      | none => none)
    | _ => none)
  | .insert t _ _ _ => (match vs with
    | [m, k, v] => (match mapUpdE tb H t m k v with
      | some H' => some (none, H')
      | none => none)
    | _ => none)
  | .mapEntry t _ _ => (match vs with
    | [m, k] => (match mapEntE tb H t m k with
      | some (v, H') => some (some v, H')
      | none => none)
    | _ => none)
  | .entryStore _ _ _ _ => (match vs with
    | [m, s, v] => (match entryStoreE H m s v with
      | some H' => some (none, H')
      | none => none)
    | _ => none)
  | .range t _ => (match vs with
    | [x] => (match rngE tb H t x with
      | some (v, H') => some (some v, H')
      | none => none)
    | _ => none)
  | .next _ isString => (match isString, vs with
    | false, [it] => (match nextE H it with
      | some (v, H') => some (some v, H')
      | none => none)
    | _, _ => none)
  | .entry _ => (match vs with
    | [it] => (match entryE H it with
      | some v => some (some v, H)
      | none => none)
    | _ => none)
  | .call c => (match c.callee with
    | .builtin .append => (match vs with
      | [s, x] => (match appendE tb H c.argTypes s x with
        | some (v, H') => some (some v, H')
        | none => none)
      | _ => none)
    | _ => none)
  | _ => none

noncomputable def outOf (σ : Sg) (E : Env) : Option Value → Next
  | some v => .value (den σ E v)
  | none => .skip
theorem heap_sound (htb : tb.Ok σ P) (h : Rel σ E H w) {ρ : Operand → Value} {o : Oper} {vs : List Value} {ov : Option Value} {H' : Hp} (hv : o.op.operands.toList.map ρ = vs.map (den σ E)) (he : heapE tb H o.op vs = some (ov, H')) :
    ∃ E' w', (execOp ρ o).run P w = .ok (outOf σ E' ov) w' ∧ Rel σ E' H' w' ∧ Fr E H w E' H' w' := by
  obtain ⟨dst, op, type, pos, after, guard⟩ := o
  cases op <;> dsimp only [heapE] at he <;> (try (cases he; done))
  case store t a x =>
    split at he; rotate_left; cases he
    rename_i a' v'
    split at he; rotate_left; cases he
    rename_i H1 hs
    cases he
    have hv : ρ a = den σ E a' ∧ ρ x = den σ E v' := by simpa [Op.operands] using hv
    obtain ⟨w', r1, r2⟩ := store_sound (P := P) htb h hs
    refine ⟨E, w', ?_, r2⟩
    simp only [execOp, hv.1, hv.2, Sem.run_bind, r1, Result.andThen_ok, Sem.run_pure, outOf]
  case mapUpdate t m k x =>
    split at he; rotate_left; cases he
    rename_i m' k' v'
    split at he; rotate_left; cases he
    rename_i H1 hs
    cases he
    have hv : ρ m = den σ E m' ∧ ρ k = den σ E k' ∧ ρ x = den σ E v' := by simpa [Op.operands] using hv
    obtain ⟨w', r1, r2⟩ := mapUpd_sound (P := P) htb h hs
    refine ⟨E, w', ?_, r2⟩
    simp only [execOp, hv.1, hv.2.1, hv.2.2, Sem.run_bind, r1, Result.andThen_ok, Sem.run_pure, outOf]
  case insert t m k x =>
    split at he; rotate_left; cases he
    rename_i m' k' v'
    split at he; rotate_left; cases he
    rename_i H1 hs
    cases he
    have hv : ρ m = den σ E m' ∧ ρ k = den σ E k' ∧ ρ x = den σ E v' := by simpa [Op.operands] using hv
    obtain ⟨w', r1, r2⟩ := mapUpd_sound (P := P) htb h hs
    refine ⟨E, w', ?_, r2⟩
    simp only [execOp, hv.1, hv.2.1, hv.2.2, Sem.run_bind, r1, Result.andThen_ok, Sem.run_pure, outOf]
  case mapEntry t m k =>
    split at he; rotate_left; cases he
    rename_i m' k'
    split at he; rotate_left; cases he
    rename_i v' H1 hs
    cases he
    have hv : ρ m = den σ E m' ∧ ρ k = den σ E k' := by simpa [Op.operands] using hv
    obtain ⟨w', r1, r2⟩ := mapEnt_sound (P := P) htb h hs
    refine ⟨E, w', ?_, r2⟩
    simp only [execOp, hv.1, hv.2, Sem.run_bind, r1, Result.andThen_ok, Sem.run_pure, outOf]
  case entryStore t m s x =>
    split at he; rotate_left; cases he
    rename_i m' k' v'
    split at he; rotate_left; cases he
    rename_i H1 hs
    cases he
    have hv : ρ m = den σ E m' ∧ ρ s = den σ E k' ∧ ρ x = den σ E v' := by simpa [Op.operands] using hv
    obtain ⟨w', r1, r2⟩ := entryStore_sound (P := P) (t := t) h hs
    refine ⟨E, w', ?_, r2⟩
    simp only [execOp, hv.1, hv.2.1, hv.2.2, Sem.run_bind, r1, Result.andThen_ok, Sem.run_pure, outOf]
  case range t x =>
    split at he; rotate_left; cases he
    rename_i x'
    split at he; rotate_left; cases he
    rename_i v' H1 hs
    cases he
    have hv := map1 (E := E) hv
    obtain ⟨E', w', r1, r2⟩ := rng_sound (P := P) htb h hs
    refine ⟨E', w', ?_, r2⟩
    simp only [execOp, hv, Sem.run_bind, r1, Result.andThen_ok, Sem.run_pure, outOf]
  case next it isString =>
    split at he; rotate_left; cases he
    rename_i it'
    split at he; rotate_left; cases he
    rename_i v' H1 hs
    cases he
    have hv := map1 (E := E) hv
    obtain ⟨w', r1, r2⟩ := next_sound (P := P) (ty := type) h hs
    refine ⟨E, w', ?_, r2⟩
    simp only [execOp, hv, Sem.run_bind, r1, Result.andThen_ok, Sem.run_pure, outOf]
  case entry it =>
    split at he; rotate_left; cases he
    rename_i it'
    split at he; rotate_left; cases he
    rename_i v' hs
    cases he
    have hv := map1 (E := E) hv
    have r1 := entry_sound (P := P) h hs
    refine ⟨E, w, ?_, h, Fr.refl _ _ _⟩
    simp only [execOp, hv, Sem.run_bind, r1, Result.andThen_ok, Sem.run_pure, outOf]
  case call c =>
    obtain ⟨callee, args, argTypes⟩ := c
    cases callee with
    | value f => simp at he
    | invoke r m => simp at he
    | builtin b =>
      cases b <;> dsimp only at he <;> (try (cases he; done))
      split at he; rotate_left; cases he
      rename_i s' x'
      split at he; rotate_left; cases he
      rename_i v' H1 hs
      cases he
      have hv : args.toList.map ρ = [s', x'].map (den σ E) := by simpa [Op.operands, Call.operands] using hv
      have hargs := args_eq (E := E) hv
      obtain ⟨E', w', r1, r2⟩ := append_sound (P := P) (rt := type) htb h hs
      refine ⟨E', w', ?_, r2⟩
      simp only [execOp, resolve, hargs, Sem.run_bind, Sem.run_pure, Result.andThen_ok, invoke, builtin]
      simp only [List.map_cons, List.map_nil] at *
      rw [r1]
      rfl

/-- a call of a function: which, and with what -/
noncomputable def callE (op : Op) (vs : List Value) : Option (FuncId × List Value) :=
  match op with
  | .call c => (match c.callee, vs with
    | .value _, .func (.func f) first captured :: args => some (f, first.toList ++ args ++ captured.toList)
    | _, _ => none)
  | _ => none
theorem call_sound (htb : tb.Ok σ P) {ρ : Operand → Value} {o : Oper} {vs : List Value} {f : FuncId} {args : List Value} {g : Func} (hg : tb.fn.get f = some g) (hv : o.op.operands.toList.map ρ = vs.map (den σ E)) (he : callE o.op vs = some (f, args)) :
    (execOp ρ o).run P w = .ok (.enter f (args.map (den σ E)).toArray) w := by
  obtain ⟨dst, op, type, pos, after, guard⟩ := o
  cases op <;> dsimp only [callE] at he <;> (try (cases he; done))
  rename_i c
  obtain ⟨callee, cargs, argTypes⟩ := c
  cases callee with
  | builtin b => simp at he
  | invoke r m => simp at he
  | value x =>
    split at he; rotate_left; cases he
    rename_i y f' first captured args' hq
    cases hq
    cases he
    have hv : ρ x = den σ E (.func (.func f) first captured) ∧ cargs.toList.map ρ = args'.map (den σ E) := by simpa [Op.operands, Call.operands] using hv
    have hargs := args_eq (E := E) hv.2
    simp only [execOp, resolve, hargs, hv.1, den_func, Deferred.ofValue, Sem.run_bind, Sem.run_pure, Result.andThen_ok, invoke, htb.call f g hg]
    congr 2
    apply Array.ext'
    simp

/-! ### temporaries -/
/-! ### Frames: two tables of sixteen -/
structure N16 (α : Type) where
  c0 : α
  c1 : α
  c2 : α
  c3 : α
  c4 : α
  c5 : α
  c6 : α
  c7 : α
  c8 : α
  c9 : α
  c10 : α
  c11 : α
  c12 : α
  c13 : α
  c14 : α
  c15 : α
inductive SV (α : Type) where
  | no
  | mk (g : N16 α → α) (s : N16 α → α → N16 α)
noncomputable def selC {α : Type} : Nat → SV α
  | 0 => .mk (fun x => x.c0) (fun x v => N16.rec (motive := fun _ => N16 α) (fun _a0 a1 a2 a3 a4 a5 a6 a7 a8 a9 a10 a11 a12 a13 a14 a15 => ⟨v, a1, a2, a3, a4, a5, a6, a7, a8, a9, a10, a11, a12, a13, a14, a15⟩) x)
  | 1 => .mk (fun x => x.c1) (fun x v => N16.rec (motive := fun _ => N16 α) (fun a0 _a1 a2 a3 a4 a5 a6 a7 a8 a9 a10 a11 a12 a13 a14 a15 => ⟨a0, v, a2, a3, a4, a5, a6, a7, a8, a9, a10, a11, a12, a13, a14, a15⟩) x)
  | 2 => .mk (fun x => x.c2) (fun x v => N16.rec (motive := fun _ => N16 α) (fun a0 a1 _a2 a3 a4 a5 a6 a7 a8 a9 a10 a11 a12 a13 a14 a15 => ⟨a0, a1, v, a3, a4, a5, a6, a7, a8, a9, a10, a11, a12, a13, a14, a15⟩) x)
  | 3 => .mk (fun x => x.c3) (fun x v => N16.rec (motive := fun _ => N16 α) (fun a0 a1 a2 _a3 a4 a5 a6 a7 a8 a9 a10 a11 a12 a13 a14 a15 => ⟨a0, a1, a2, v, a4, a5, a6, a7, a8, a9, a10, a11, a12, a13, a14, a15⟩) x)
  | 4 => .mk (fun x => x.c4) (fun x v => N16.rec (motive := fun _ => N16 α) (fun a0 a1 a2 a3 _a4 a5 a6 a7 a8 a9 a10 a11 a12 a13 a14 a15 => ⟨a0, a1, a2, a3, v, a5, a6, a7, a8, a9, a10, a11, a12, a13, a14, a15⟩) x)
  | 5 => .mk (fun x => x.c5) (fun x v => N16.rec (motive := fun _ => N16 α) (fun a0 a1 a2 a3 a4 _a5 a6 a7 a8 a9 a10 a11 a12 a13 a14 a15 => ⟨a0, a1, a2, a3, a4, v, a6, a7, a8, a9, a10, a11, a12, a13, a14, a15⟩) x)
  | 6 => .mk (fun x => x.c6) (fun x v => N16.rec (motive := fun _ => N16 α) (fun a0 a1 a2 a3 a4 a5 _a6 a7 a8 a9 a10 a11 a12 a13 a14 a15 => ⟨a0, a1, a2, a3, a4, a5, v, a7, a8, a9, a10, a11, a12, a13, a14, a15⟩) x)
  | 7 => .mk (fun x => x.c7) (fun x v => N16.rec (motive := fun _ => N16 α) (fun a0 a1 a2 a3 a4 a5 a6 _a7 a8 a9 a10 a11 a12 a13 a14 a15 => ⟨a0, a1, a2, a3, a4, a5, a6, v, a8, a9, a10, a11, a12, a13, a14, a15⟩) x)
  | 8 => .mk (fun x => x.c8) (fun x v => N16.rec (motive := fun _ => N16 α) (fun a0 a1 a2 a3 a4 a5 a6 a7 _a8 a9 a10 a11 a12 a13 a14 a15 => ⟨a0, a1, a2, a3, a4, a5, a6, a7, v, a9, a10, a11, a12, a13, a14, a15⟩) x)
  | 9 => .mk (fun x => x.c9) (fun x v => N16.rec (motive := fun _ => N16 α) (fun a0 a1 a2 a3 a4 a5 a6 a7 a8 _a9 a10 a11 a12 a13 a14 a15 => ⟨a0, a1, a2, a3, a4, a5, a6, a7, a8, v, a10, a11, a12, a13, a14, a15⟩) x)
  | 10 => .mk (fun x => x.c10) (fun x v => N16.rec (motive := fun _ => N16 α) (fun a0 a1 a2 a3 a4 a5 a6 a7 a8 a9 _a10 a11 a12 a13 a14 a15 => ⟨a0, a1, a2, a3, a4, a5, a6, a7, a8, a9, v, a11, a12, a13, a14, a15⟩) x)
  | 11 => .mk (fun x => x.c11) (fun x v => N16.rec (motive := fun _ => N16 α) (fun a0 a1 a2 a3 a4 a5 a6 a7 a8 a9 a10 _a11 a12 a13 a14 a15 => ⟨a0, a1, a2, a3, a4, a5, a6, a7, a8, a9, a10, v, a12, a13, a14, a15⟩) x)
  | 12 => .mk (fun x => x.c12) (fun x v => N16.rec (motive := fun _ => N16 α) (fun a0 a1 a2 a3 a4 a5 a6 a7 a8 a9 a10 a11 _a12 a13 a14 a15 => ⟨a0, a1, a2, a3, a4, a5, a6, a7, a8, a9, a10, a11, v, a13, a14, a15⟩) x)
  | 13 => .mk (fun x => x.c13) (fun x v => N16.rec (motive := fun _ => N16 α) (fun a0 a1 a2 a3 a4 a5 a6 a7 a8 a9 a10 a11 a12 _a13 a14 a15 => ⟨a0, a1, a2, a3, a4, a5, a6, a7, a8, a9, a10, a11, a12, v, a14, a15⟩) x)
  | 14 => .mk (fun x => x.c14) (fun x v => N16.rec (motive := fun _ => N16 α) (fun a0 a1 a2 a3 a4 a5 a6 a7 a8 a9 a10 a11 a12 a13 _a14 a15 => ⟨a0, a1, a2, a3, a4, a5, a6, a7, a8, a9, a10, a11, a12, a13, v, a15⟩) x)
  | 15 => .mk (fun x => x.c15) (fun x v => N16.rec (motive := fun _ => N16 α) (fun a0 a1 a2 a3 a4 a5 a6 a7 a8 a9 a10 a11 a12 a13 a14 _a15 => ⟨a0, a1, a2, a3, a4, a5, a6, a7, a8, a9, a10, a11, a12, a13, a14, v⟩) x)
  | _ => .no
theorem selC_ge {α : Type} (i : Nat) (h : 16 ≤ i) : (selC i : SV α) = .no := by
  match i, h with
  | 0, h => omega
  | 1, h => omega
  | 2, h => omega
  | 3, h => omega
  | 4, h => omega
  | 5, h => omega
  | 6, h => omega
  | 7, h => omega
  | 8, h => omega
  | 9, h => omega
  | 10, h => omega
  | 11, h => omega
  | 12, h => omega
  | 13, h => omega
  | 14, h => omega
  | 15, h => omega
  | _ + 16, _ => rfl
theorem sel_same {α : Type} {i : Nat} {g : N16 α → α} {s : N16 α → α → N16 α} (h : selC i = .mk g s) (x : N16 α) (v : α) : g (s x v) = v := by
  match i, h with
  | 0, h => cases h; rfl
  | 1, h => cases h; rfl
  | 2, h => cases h; rfl
  | 3, h => cases h; rfl
  | 4, h => cases h; rfl
  | 5, h => cases h; rfl
  | 6, h => cases h; rfl
  | 7, h => cases h; rfl
  | 8, h => cases h; rfl
  | 9, h => cases h; rfl
  | 10, h => cases h; rfl
  | 11, h => cases h; rfl
  | 12, h => cases h; rfl
  | 13, h => cases h; rfl
  | 14, h => cases h; rfl
  | 15, h => cases h; rfl
  | _ + 16, h => cases h
theorem sel_other {α : Type} {i j : Nat} {g g' : N16 α → α} {s s' : N16 α → α → N16 α} (h : selC i = .mk g s) (h' : selC j = .mk g' s') (hne : i ≠ j) (x : N16 α) (v : α) : g' (s x v) = g' x := by
  have hi : i < 16 := Nat.lt_of_not_le fun hh => by rw [selC_ge i hh] at h; cases h
  have hj : j < 16 := Nat.lt_of_not_le fun hh => by rw [selC_ge j hh] at h'; cases h'
  have ci : i = 0 ∨ i = 1 ∨ i = 2 ∨ i = 3 ∨ i = 4 ∨ i = 5 ∨ i = 6 ∨ i = 7 ∨ i = 8 ∨ i = 9 ∨ i = 10 ∨ i = 11 ∨ i = 12 ∨ i = 13 ∨ i = 14 ∨ i = 15 := by omega
  have cj : j = 0 ∨ j = 1 ∨ j = 2 ∨ j = 3 ∨ j = 4 ∨ j = 5 ∨ j = 6 ∨ j = 7 ∨ j = 8 ∨ j = 9 ∨ j = 10 ∨ j = 11 ∨ j = 12 ∨ j = 13 ∨ j = 14 ∨ j = 15 := by omega
  rcases ci with rfl | rfl | rfl | rfl | rfl | rfl | rfl | rfl | rfl | rfl | rfl | rfl | rfl | rfl | rfl | rfl <;> rcases cj with rfl | rfl | rfl | rfl | rfl | rfl | rfl | rfl | rfl | rfl | rfl | rfl | rfl | rfl | rfl | rfl <;> first
    | exact absurd rfl hne
    | (cases h; cases h'; rfl)
abbrev Frm := N16 (N16 Value)
noncomputable def frGet (F : Frm) (t : Nat) : Value := match (selC (Nat.div t 16) : SV (N16 Value)), (selC (Nat.mod t 16) : SV Value) with
  | .mk g _, .mk h _ => h (g F)
  | _, _ => undef
noncomputable def frPut (F : Frm) (t : Nat) (v : Value) : Option Frm := match (selC (Nat.div t 16) : SV (N16 Value)), (selC (Nat.mod t 16) : SV Value) with
  | .mk g s, .mk _ r => some (s F (r (g F) v))
  | _, _ => none
theorem frGet_put {F F' : Frm} {d : Nat} {v : Value} (h : frPut F d v = some F') (t : Nat) : frGet F' t = if t = d then v else frGet F t := by
  unfold frPut at h
  split at h
  · rename_i g s g2 r h1 h2
    cases h
    unfold frGet
    by_cases e : t = d
    · subst e
      rw [if_pos rfl, h1, h2]
      show g2 (g (s F (r (g F) v))) = v
      rw [sel_same h1, sel_same h2]
    · rw [if_neg e]
      cases h3 : (selC (Nat.div t 16) : SV (N16 Value)) with
      | no => rfl
      | mk g3 s3 =>
        cases h4 : (selC (Nat.mod t 16) : SV Value) with
        | no => rfl
        | mk g4 s4 =>
          show g4 (g3 (s F (r (g F) v))) = g4 (g3 F)
          by_cases e1 : Nat.div d 16 = Nat.div t 16
          · have e2 : Nat.mod d 16 ≠ Nat.mod t 16 := by
              intro e2
              have a1 : d / 16 = t / 16 := e1
              have a2 : d % 16 = t % 16 := e2
              omega
            rw [e1] at h1
            rw [h3] at h1
            cases h1
            rw [sel_same h3, sel_other h2 h4 e2]
          · rw [sel_other h1 h3 e1]
  · cases h
noncomputable def un16 : N16 Value := ⟨undef, undef, undef, undef, undef, undef, undef, undef, undef, undef, undef, undef, undef, undef, undef, undef⟩
noncomputable def fr0 : Frm := ⟨un16, un16, un16, un16, un16, un16, un16, un16, un16, un16, un16, un16, un16, un16, un16, un16⟩
theorem sel_un {i : Nat} {g : N16 Value → Value} {s : N16 Value → Value → N16 Value} (h : selC i = .mk g s) : g un16 = undef := by
  match i, h with
  | 0, h => cases h; rfl
  | 1, h => cases h; rfl
  | 2, h => cases h; rfl
  | 3, h => cases h; rfl
  | 4, h => cases h; rfl
  | 5, h => cases h; rfl
  | 6, h => cases h; rfl
  | 7, h => cases h; rfl
  | 8, h => cases h; rfl
  | 9, h => cases h; rfl
  | 10, h => cases h; rfl
  | 11, h => cases h; rfl
  | 12, h => cases h; rfl
  | 13, h => cases h; rfl
  | 14, h => cases h; rfl
  | 15, h => cases h; rfl
  | _ + 16, h => cases h
theorem sel_fr0 {i : Nat} {g : N16 (N16 Value) → N16 Value} {s : N16 (N16 Value) → N16 Value → N16 (N16 Value)} (h : selC i = .mk g s) : g fr0 = un16 := by
  match i, h with
  | 0, h => cases h; rfl
  | 1, h => cases h; rfl
  | 2, h => cases h; rfl
  | 3, h => cases h; rfl
  | 4, h => cases h; rfl
  | 5, h => cases h; rfl
  | 6, h => cases h; rfl
  | 7, h => cases h; rfl
  | 8, h => cases h; rfl
  | 9, h => cases h; rfl
  | 10, h => cases h; rfl
  | 11, h => cases h; rfl
  | 12, h => cases h; rfl
  | 13, h => cases h; rfl
  | 14, h => cases h; rfl
  | 15, h => cases h; rfl
  | _ + 16, h => cases h
theorem frGet_fr0 (t : Nat) : frGet fr0 t = undef := by
  unfold frGet
  split
  · rename_i g s h r h1 h2
    rw [sel_fr0 h1, sel_un h2]
  · rfl
structure Tm where
  tr : Frm
  n : Nat
noncomputable def Tm.at (T : Tm) (t : Nat) : Value := frGet T.tr t
noncomputable def evE (T : Tm) : Operand → Option Value
  | .tmp t => some (T.at t)
  | .const v => bif okV deep 0 v then some v else none
  | .global _ => none
  | .func f => some (.func (.func f) #[] #[])
noncomputable def evL (T : Tm) : List Operand → Option (List Value)
  | [] => some []
  | x :: xs => match evE T x, evL T xs with
    | some v, some vs => some (v :: vs)
    | _, _ => none
noncomputable def Tm.put (T : Tm) (dst : Option Tmp) (v : Value) : Option Tm := match dst with
  | none => some T
  | some d => bif Nat.blt d T.n then (match frPut T.tr d v with
    | some tr => some ⟨tr, T.n⟩
    | none => none) else none

noncomputable def TmRel (σ : Sg) (E : Env) (T : Tm) (a : Act) : Prop := a.tmps.size = T.n ∧ ∀ t, a.tmps.getD t undef = den σ E (T.at t)
noncomputable def OkT (n : Nat) (T : Tm) : Prop := ∀ t, okV deep n (T.at t) = true

theorem den_undef : den σ E undef = undef := by rw [undef, den_tuple]; simp
theorem ev_sound {T : Tm} {a : Act} (h : TmRel σ E T a) {x : Operand} {v : Value} (he : evE T x = some v) : a.eval x = den σ E v := by
  cases x with
  | tmp t => cases he; exact h.2 t
  | const c =>
    simp only [evE] at he
    cases hc : okV deep 0 c with
    | false => rw [hc] at he; cases he
    | true => rw [hc] at he; cases he; exact (den_plain E deep _ hc).symm
  | global g => cases he
  | func f => cases he; rw [den_func]; simp [Act.eval]
theorem evL_sound {T : Tm} {a : Act} (h : TmRel σ E T a) : ∀ (xs : List Operand) (vs : List Value), evL T xs = some vs → xs.map a.eval = vs.map (den σ E) := by
  intro xs
  induction xs with
  | nil => intro vs he; cases he; rfl
  | cons x xs ih =>
    intro vs he
    simp only [evL] at he
    cases hx : evE T x with
    | none => rw [hx] at he; cases he
    | some v =>
      cases hxs : evL T xs with
      | none => rw [hx, hxs] at he; cases he
      | some vs' =>
        rw [hx, hxs] at he
        cases he
        rw [List.map_cons, List.map_cons, ev_sound h hx, ih _ hxs]
theorem ev_ok {T : Tm} {n : Nat} (h : OkT n T) {x : Operand} {v : Value} (he : evE T x = some v) : okV deep n v = true := by
  cases x with
  | tmp t => cases he; exact h t
  | const c =>
    simp only [evE] at he
    cases hc : okV deep 0 c with
    | false => rw [hc] at he; cases he
    | true => rw [hc] at he; cases he; exact okV_mono (Nat.zero_le _) deep _ hc
  | global g => cases he
  | func f => cases he; rfl
theorem evL_ok {T : Tm} {n : Nat} (h : OkT n T) : ∀ (xs : List Operand) (vs : List Value), evL T xs = some vs → ∀ v ∈ vs, okV deep n v = true := by
  intro xs
  induction xs with
  | nil => intro vs he; cases he; simp
  | cons x xs ih =>
    intro vs he
    simp only [evL] at he
    cases hx : evE T x with
    | none => rw [hx] at he; cases he
    | some v =>
      cases hxs : evL T xs with
      | none => rw [hx, hxs] at he; cases he
      | some vs' =>
        rw [hx, hxs] at he
        cases he
        intro u hu
        rcases List.mem_cons.1 hu with rfl | hu
        · exact ev_ok h hx
        · exact ih _ hxs u hu

theorem Tm.at_put {T T' : Tm} {d : Tmp} {v : Value} (h : T.put (some d) v = some T') : T'.n = T.n ∧ d < T.n ∧ ∀ t, T'.at t = if t = d then v else T.at t := by
  simp only [Tm.put] at h
  cases hb : Nat.blt d T.n with
  | false => rw [hb] at h; cases h
  | true =>
    rw [hb] at h
    dsimp only [cond_true] at h
    cases hp : frPut T.tr d v with
    | none => rw [hp] at h; cases h
    | some tr =>
      rw [hp] at h
      cases h
      refine ⟨rfl, by simpa [Nat.blt_eq] using hb, fun t => ?_⟩
      exact frGet_put hp t

theorem TmRel.put {T T' : Tm} {a : Act} (h : TmRel σ E T a) {dst : Option Tmp} {v : Value} (hp : T.put dst v = some T') : TmRel σ E T' (a.put dst (den σ E v)) := by
  cases dst with
  | none => cases hp; exact h
  | some d =>
    obtain ⟨h1, h2, h3⟩ := Tm.at_put hp
    refine ⟨by simp [Act.put, h.1, h1], fun t => ?_⟩
    rw [h3]
    simp only [Act.put]
    by_cases e : t = d
    · subst e
      simp [h.1, h2]
    · rw [if_neg e, ← h.2 t]
      simp [Array.getElem?_setIfInBounds_ne (Ne.symm e)]
theorem OkT.put {T T' : Tm} {n : Nat} (h : OkT n T) {dst : Option Tmp} {v : Value} (hv : okV deep n v = true) (hp : T.put dst v = some T') : OkT n T' := by
  cases dst with
  | none => cases hp; exact h
  | some d =>
    obtain ⟨_, _, h3⟩ := Tm.at_put hp
    intro t
    rw [h3]
    split
    · exact hv
    · exact h t
theorem OkT.mono {T : Tm} {n m : Nat} (h : OkT n T) (hnm : n ≤ m) : OkT m T := fun t => okV_mono hnm deep _ (h t)
theorem TmRel.ext {E' : Env} {T : Tm} {a : Act} {n : Nat} (h : TmRel σ E T a) (ho : OkT n T) (he : Env.Ext n E E') : TmRel σ E' T a :=
  ⟨h.1, fun t => by rw [den_ext he deep _ (ho t)]; exact h.2 t⟩
end
end Go.Proofs.Ytnjfbcoddbeggaa.Sx
