/-
  Runs of closed code: all operations that leave memory alone; all that make a block.
-/
import Derived.Test.YtnjfbcoddbeggaaSx7
namespace Go.Proofs.Ytnjfbcoddbeggaa.Sx
open Go
variable {σ : Sg}

section
variable {P : Program} {tb : Tab} {E : Env} {H : Hp} {w : World}

noncomputable def oneOpt : Option Operand → List Value → Option (Option Value × List Value)
  | none, vs => some (none, vs)
  | some _, v :: vs => some (some v, vs)
  | some _, [] => none

/-- two nil interfaces are compared where one is written so -/
noncomputable def nilE (tb : Tab) (op : BinOp) (t : TypeId) (x y : Operand) (a b : Value) : Option Value := match a, b with
  | .nilIface, .nilIface => bif isC x || isC y then (match tb.ty.get t with
    | some ty => (match ty.desc, op with
      | .interface _, .eql => some (.bool true)
      | .interface _, .neq => some (.bool false)
      | _, _ => none)
    | none => none) else none
  | a, b => binE tb op t a b
theorem equalIn_nil {t : TypeId} {ms : Array (String × TypeId)} (hu : P.underlying t = some (.interface ms)) (D : Nat) : (Op.equalIn (D + 1) t .nilIface .nilIface).run P w = .ok true w := by
  simp [Op.equalIn, run_underlying hu]
theorem equal_nil {t : TypeId} {ms : Array (String × TypeId)} (hu : P.underlying t = some (.interface ms)) : (Op.equal t .nilIface .nilIface).run P w = .ok true w := equalIn_nil hu 9999
theorem nil_sound (htb : tb.Ok σ P) {op : BinOp} {t : TypeId} {x y : Operand} {a b v : Value} (he : nilE tb op t x y a b = some v) :
    ((do eqGuard op t x y (den σ E a) (den σ E b); binOp op t (den σ E a) (den σ E b)) : Sem Value).run P w = .ok (den σ E v) w := by
  unfold nilE at he
  split at he
  · cases hc : (isC x || isC y) with
    | false => rw [hc] at he; cases he
    | true =>
      rw [hc] at he
      dsimp only [cond_true] at he
      cases hy : tb.ty.get t with
      | none => rw [hy] at he; cases he
      | some ty =>
        rw [hy] at he
        dsimp only at he
        have hu := htb.desc t ty hy
        have hg1 : (eqGuard .eql t x y .nilIface .nilIface).run P w = .ok () w := by
          cases x with
          | const c => rfl
          | _ => cases y with
            | const c => rfl
            | _ => cases hc
        have hg2 : (eqGuard .neq t x y .nilIface .nilIface).run P w = .ok () w := by
          cases x with
          | const c => rfl
          | _ => cases y with
            | const c => rfl
            | _ => cases hc
        split at he
        · rename_i ms hd
          rw [hd] at hu
          cases he
          rw [den_nilIface, den_bool]
          have e : binOp .eql t .nilIface .nilIface = (do pure (.bool (← Op.equal t .nilIface .nilIface))) := rfl
          simp only [Sem.run_bind, hg1, Result.andThen_ok, e, equal_nil hu, Sem.run_pure]
        · rename_i ms hd
          rw [hd] at hu
          cases he
          rw [den_nilIface, den_bool]
          have e : binOp .neq t .nilIface .nilIface = (do pure (.bool (!(← Op.equal t .nilIface .nilIface)))) := rfl
          simp only [Sem.run_bind, hg2, Result.andThen_ok, e, equal_nil hu, Sem.run_pure]
          rfl
        · cases he
  · exact bin_sound htb he
/-- an operation that leaves memory alone -/
noncomputable def pure0 (tb : Tab) (H : Hp) (op : Op) (vs : List Value) : Option Value :=
  match op with
  | .move _ => (match vs with | [v] => some v | _ => none)
  | .assign _ => (match vs with | [v] => some v | _ => none)
  | .pick _ _ _ => (match vs with | [.bool c, a, b] => some (bif c then a else b) | _ => none)
  | .load t _ => (match vs with | [a] => loadE tb H t a | _ => none)
  | .nilCheck _ => (match vs with | [v] => nilCheckE v | _ => none)
  | .binOp op t x y _ => (match vs with | [a, b] => nilE tb op t x y a b | _ => none)
  | .unOp op _ _ => (match vs with | [a] => unE op a | _ => none)
  | .convert s d _ => (match vs with | [a] => convE tb H s d a | _ => none)
  | .makeInterface t _ => (match vs with | [a] => ifaceE tb t a | _ => none)
  | .makeFunc fn first _captured => (match fn with
    | .func f => some (.func (.func f) (vs.take first.toList.length).toArray (vs.drop first.toList.length).toArray)
    | _ => none)
  | .slice t _ lo hi mx => (match mx, vs with
    | none, x :: vs => (match oneOpt lo vs with
      | some (l, vs) => (match oneOpt hi vs with
        | some (h, []) => sliceE tb H t x l h
        | _ => none)
      | none => none)
    | _, _ => none)
  | .fieldAddr s _ f => (match vs with | [a] => fieldAddrE tb s f a | _ => none)
  | .field t _ f => (match vs with | [a] => fieldE tb t f a | _ => none)
  | .indexAddr t _ _ => (match vs with | [a, i] => indexAddrE tb t a i | _ => none)
  | .index t _ _ => (match vs with | [a, i] => indexE tb t a i | _ => none)
  | .lookup t _ _ ok => (match vs with | [a, k] => lookupE tb H t ok a k | _ => none)
  | .build t parts => buildE tb t ((parts.toList.map (·.1)).zip vs)
  | .extract _ i => (match vs with | [a] => extractE i a | _ => none)
  | .typeAssert _ _ t ok => (match vs with | [a] => assertE tb a t ok | _ => none)
  | .call c => (match c.callee with
    | .builtin .len => (match vs, c.argTypes[0]? with | [a], some t => lenE tb H t a | _, _ => none)
    | .builtin .max => (match vs with | a :: r => minmaxE tb true a r | _ => none)
    | .builtin .min => (match vs with | a :: r => minmaxE tb false a r | _ => none)
    | _ => none)
  | _ => none

theorem map1 {ρ : Operand → Value} {x : Operand} {v : Value} (h : [ρ x] = [v].map (den σ E)) : ρ x = den σ E v := by simpa using h
theorem args_eq {ρ : Operand → Value} {vs : List Value} {xs : Array Operand} (h : xs.toList.map ρ = vs.map (den σ E)) : xs.map ρ = (vs.map (den σ E)).toArray := by
  apply Array.ext'
  simpa using h

theorem pure0_sound (htb : tb.Ok σ P) (h : Rel σ E H w) {ρ : Operand → Value} {o : Oper} {vs : List Value} {v : Value} (hv : o.op.operands.toList.map ρ = vs.map (den σ E)) (he : pure0 tb H o.op vs = some v) :
    (execOp ρ o).run P w = .ok (.value (den σ E v)) w := by
  obtain ⟨dst, op, type, pos, after, guard⟩ := o
  cases op <;> dsimp only [pure0] at he <;> (try (cases he; done))
  case move x =>
    split at he <;> cases he
    simp only [Op.operands] at hv
    simp [execOp, map1 (E := E) (by simpa using hv)]
  case assign x =>
    split at he <;> cases he
    simp only [Op.operands] at hv
    simp [execOp, map1 (E := E) (by simpa using hv)]
  case pick c a b =>
    split at he <;> cases he
    rename_i c' a' b'
    have hv : ρ c = den σ E (.bool c') ∧ ρ a = den σ E a' ∧ ρ b = den σ E b' := by simpa [Op.operands] using hv
    simp only [execOp, hv.1, hv.2.1, hv.2.2, den_bool, asBool, Sem.run_bind, Sem.run_pure, Result.andThen_ok]
    cases c' <;> rfl
  case load t a =>
    split at he; rotate_left; cases he
    have hv := map1 (E := E) hv
    simp only [execOp, hv, Sem.run_bind, load_sound htb h he, Result.andThen_ok, Sem.run_pure]
  case nilCheck x =>
    split at he; rotate_left; cases he
    have hv := map1 (E := E) hv
    unfold nilCheckE at he
    split at he <;> cases he <;> simp only [execOp, hv, den_pointer, den_func, den_iface] <;> rfl
  case binOp op t x y yt =>
    split at he; rotate_left; cases he
    rename_i a b
    have hv : ρ x = den σ E a ∧ ρ y = den σ E b := by simpa [Op.operands] using hv
    have := nil_sound (E := E) (P := P) (w := w) htb he
    rw [← hv.1, ← hv.2] at this
    show ((do eqGuard op t x y (ρ x) (ρ y); binOp op t (ρ x) (ρ y)) >>= fun v => (pure (.value v) : Sem Next)).run P w = _
    rw [Sem.run_bind, this]
    rfl
  case unOp op t x =>
    split at he; rotate_left; cases he
    have hv := map1 (E := E) hv
    simp only [execOp, hv, Sem.run_bind, un_sound he, Result.andThen_ok, Sem.run_pure]
  case convert s d x =>
    split at he; rotate_left; cases he
    have hv := map1 (E := E) hv
    simp only [execOp, hv, Sem.run_bind, conv_sound htb h he, Result.andThen_ok, Sem.run_pure]
  case makeInterface t x =>
    split at he; rotate_left; cases he
    have hv := map1 (E := E) hv
    simp only [execOp, hv, Sem.run_bind, iface_sound htb he, Result.andThen_ok, Sem.run_pure]
  case makeFunc fn first captured =>
    split at he; rotate_left; cases he
    cases he
    simp only [Op.operands, Array.toList_append, List.map_append] at hv
    have hl : first.toList.length = (first.toList.map ρ).length := by simp
    have h1 : first.toList.map ρ = (vs.take first.toList.length).map (den σ E) := by
      rw [List.map_take, ← hv, hl, List.take_left]
    have h2 : captured.toList.map ρ = (vs.drop first.toList.length).map (den σ E) := by
      rw [List.map_drop, ← hv, hl, List.drop_left]
    simp only [execOp, Instr.makeFunc, Sem.run_bind, Sem.run_pure, Result.andThen_ok, den_func, args_eq h1, args_eq h2, List.map_toArray]
  case slice t x lo hi mx =>
    cases mx with
    | some _ => simp at he
    | none =>
      cases vs with
      | nil => simp at he
      | cons x' vs =>
        dsimp only at he
        simp only [Op.operands, Option.toArray, Array.append_empty, Array.toList_append, List.map_append] at hv
        cases lo with
        | none =>
          cases hi with
          | none =>
            cases vs with
            | cons _ _ => simp [oneOpt] at he
            | nil =>
              have hv : ρ x = den σ E x' := by simpa using hv
              have := slice_sound (E := E) (P := P) (w := w) htb h he
              simp only [execOp, hv, Option.map_none, Sem.run_bind, Sem.run_pure] at this ⊢
              rw [this]; rfl
          | some hi =>
            cases vs with
            | nil => simp [oneOpt] at he
            | cons h' vs =>
              cases vs with
              | cons _ _ => simp [oneOpt] at he
              | nil =>
                have hv : ρ x = den σ E x' ∧ ρ hi = den σ E h' := by simpa using hv
                have := slice_sound (E := E) (P := P) (w := w) htb h he
                simp only [execOp, hv.1, hv.2, Option.map_none, Option.map_some, Sem.run_bind, Sem.run_pure] at this ⊢
                rw [this]; rfl
        | some lo =>
          cases vs with
          | nil => simp [oneOpt] at he
          | cons l' vs =>
            cases hi with
            | none =>
              cases vs with
              | cons _ _ => simp [oneOpt] at he
              | nil =>
                have hv : ρ x = den σ E x' ∧ ρ lo = den σ E l' := by simpa using hv
                have := slice_sound (E := E) (P := P) (w := w) htb h he
                simp only [execOp, hv.1, hv.2, Option.map_none, Option.map_some, Sem.run_bind, Sem.run_pure] at this ⊢
                rw [this]; rfl
            | some hi =>
              cases vs with
              | nil => simp [oneOpt] at he
              | cons h' vs =>
                cases vs with
                | cons _ _ => simp [oneOpt] at he
                | nil =>
                  have hv : ρ x = den σ E x' ∧ ρ lo = den σ E l' ∧ ρ hi = den σ E h' := by simpa using hv
                  have := slice_sound (E := E) (P := P) (w := w) htb h he
                  simp only [execOp, hv.1, hv.2.1, hv.2.2, Option.map_none, Option.map_some, Sem.run_bind, Sem.run_pure] at this ⊢
                  rw [this]; rfl
  case fieldAddr s x f =>
    split at he; rotate_left; cases he
    have hv := map1 (E := E) hv
    simp only [execOp, hv, Sem.run_bind, fieldAddr_sound htb he, Result.andThen_ok, Sem.run_pure]
  case field t x f =>
    split at he; rotate_left; cases he
    have hv := map1 (E := E) hv
    simp only [execOp, hv, Sem.run_bind, field_sound htb he, Result.andThen_ok, Sem.run_pure]
  case indexAddr t x i =>
    split at he; rotate_left; cases he
    rename_i a b
    have hv : ρ x = den σ E a ∧ ρ i = den σ E b := by simpa [Op.operands] using hv
    simp only [execOp, hv.1, hv.2, Sem.run_bind, indexAddr_sound htb he, Result.andThen_ok, Sem.run_pure]
  case index t x i =>
    split at he; rotate_left; cases he
    rename_i a b
    have hv : ρ x = den σ E a ∧ ρ i = den σ E b := by simpa [Op.operands] using hv
    simp only [execOp, hv.1, hv.2, Sem.run_bind, index_sound htb he, Result.andThen_ok, Sem.run_pure]
  case lookup t x i ok =>
    split at he; rotate_left; cases he
    rename_i a b
    have hv : ρ x = den σ E a ∧ ρ i = den σ E b := by simpa [Op.operands] using hv
    simp only [execOp, hv.1, hv.2, Sem.run_bind, lookup_sound htb h he, Result.andThen_ok, Sem.run_pure]
  case build t parts =>
    have hb := build_sound (E := E) (P := P) (w := w) htb he
    have e : (parts.map fun (i, x) => (i, ρ x)) = (((parts.toList.map (·.1)).zip vs).map fun p => (p.1, den σ E p.2)).toArray := by
      apply Array.ext'
      simp only [Op.operands] at hv
      simp only [Array.toList_map]
      have hv' : parts.toList.map (fun p => ρ p.2) = vs.map (den σ E) := by
        rw [← hv]; simp [Function.comp_def]
      have e2 : ∀ (l : List (Nat × Operand)) (vs : List Value), l.map (fun p => ρ p.2) = vs.map (den σ E) → l.map (fun x => (x.1, ρ x.2)) = ((l.map (·.1)).zip vs).map fun p => (p.1, den σ E p.2) := by
        intro l
        induction l with
        | nil => intro vs _; rfl
        | cons p l ih =>
          intro vs hq
          cases vs with
          | nil => simp at hq
          | cons v vs =>
            simp only [List.map_cons, List.cons.injEq] at hq
            simp only [List.map_cons, List.zip_cons_cons, hq.1, ih vs hq.2]
      exact e2 _ _ hv'
    simp only [execOp, e, Sem.run_bind, hb, Result.andThen_ok, Sem.run_pure]
  case extract x i =>
    split at he; rotate_left; cases he
    rename_i a
    have hv := map1 (E := E) hv
    cases a <;> first | (cases he; done) | skip
    rename_i vs' _
    have he : vs'.toList[i]? = some v := he
    have e : (vs'.map (den σ E))[i]? = some (den σ E v) := by
      rw [Array.getElem?_map, ← Array.getElem?_toList, he]; rfl
    simp only [execOp, hv, den_tuple, Instr.extract, e, Sem.run_bind, Sem.run_pure, Result.andThen_ok]
  case typeAssert x xt t ok =>
    split at he; rotate_left; cases he
    have hv := map1 (E := E) hv
    simp only [execOp, hv, Sem.run_bind, assert_sound htb he, Result.andThen_ok, Sem.run_pure]
  case call c =>
    obtain ⟨callee, args, argTypes⟩ := c
    cases callee with
    | value f => simp at he
    | invoke r m => simp at he
    | builtin b =>
      cases b <;> dsimp only at he <;> (try (cases he; done))
      case len =>
        split at he; rotate_left; cases he
        rename_i a t ha
        have hv : args.toList.map ρ = [a].map (den σ E) := by simpa [Op.operands, Call.operands] using hv
        have hargs := args_eq (E := E) hv
        have := len_sound (E := E) (P := P) (w := w) (rt := type) htb h ha he
        simp only [execOp, resolve, hargs, Sem.run_bind, Sem.run_pure, Result.andThen_ok, invoke, builtin]
        simp only [List.map_cons, List.map_nil] at *
        rw [this]
        rfl
      case max =>
        split at he; rotate_left; cases he
        rename_i a r
        have hv : args.toList.map ρ = (a :: r).map (den σ E) := by simpa [Op.operands, Call.operands] using hv
        have hargs := args_eq (E := E) hv
        have := max_sound (E := E) (P := P) (w := w) htb _ _ _ he
        simp only [execOp, resolve, hargs, Sem.run_bind, Sem.run_pure, Result.andThen_ok, invoke, builtin, Builtin.max_, List.map_cons, this]
      case min =>
        split at he; rotate_left; cases he
        rename_i a r
        have hv : args.toList.map ρ = (a :: r).map (den σ E) := by simpa [Op.operands, Call.operands] using hv
        have hargs := args_eq (E := E) hv
        have := min_sound (E := E) (P := P) (w := w) htb _ _ _ he
        simp only [execOp, resolve, hargs, Sem.run_bind, Sem.run_pure, Result.andThen_ok, invoke, builtin, Builtin.min_, List.map_cons, this]

/-! ### operations that make a block -/
/-- values that are written alike -/
noncomputable def xEq : Nat → Value → Value → Bool
  | 0, _, _ => false
  | n + 1, x, y => match x, y with
    | .float .f64 i, .float .f64 j => Nat.beq i j
    | .float .f32 i, .float .f32 j => Nat.beq i j
    | .int .i64 a, .int .i64 b => intEqE a b
    | .agg a, .agg b => Nat.beq a.toList.length b.toList.length && (a.toList.zip b.toList).all fun p => xEq n p.1 p.2
    | _, _ => false
theorem xEq_zip {n : Nat} (ih : ∀ x y, xEq n x y = true → x = y) : ∀ (a b : List Value), a.length = b.length → ((a.zip b).all fun p => xEq n p.1 p.2) = true → a = b
  | [], [], _, _ => rfl
  | [], _ :: _, h, _ => by simp at h
  | _ :: _, [], h, _ => by simp at h
  | x :: a, y :: b, h, k => by
    simp only [List.zip_cons_cons, List.all_cons, Bool.and_eq_true] at k
    rw [ih x y k.1, xEq_zip ih a b (by simpa using h) k.2]
theorem xEq_eq : ∀ (n : Nat) (x y : Value), xEq n x y = true → x = y
  | 0, _, _, h => by cases h
  | n + 1, x, y, h => by
    unfold xEq at h
    split at h
    · rw [Nat.eq_of_beq_eq_true h]
    · rw [Nat.eq_of_beq_eq_true h]
    · rename_i a b
      rw [intEqE_eq] at h
      have e : a = b := by simpa using h
      rw [e]
    · rename_i a b
      simp only [Bool.and_eq_true] at h
      have := xEq_zip (xEq_eq n) _ _ (Nat.eq_of_beq_eq_true h.1) h.2
      rw [Array.ext' this]
    · cases h
noncomputable def xEqL : List Value → List Value → Bool
  | [], [] => true
  | x :: a, y :: b => xEq 4 x y && xEqL a b
  | _, _ => false
theorem xEqL_eq : ∀ (a b : List Value), xEqL a b = true → a = b
  | [], [], _ => rfl
  | [], _ :: _, h => by cases h
  | _ :: _, [], h => by cases h
  | x :: a, y :: b, h => by
    simp only [xEqL, Bool.and_eq_true] at h
    rw [xEq_eq 4 x y h.1, xEqL_eq a b h.2]
noncomputable def extE (a : Nat) (t : TypeId) (vs : List Value) : List Xo → Option Value
  | [] => none
  | e :: es => bif (Nat.beq e.tag a && Nat.beq e.t t) && xEqL e.vs vs then some e.v else extE a t vs es
theorem extE_mem {a : Nat} {t : TypeId} {vs : List Value} {v : Value} : ∀ (l : List Xo), extE a t vs l = some v → (⟨a, t, vs, v⟩ : Xo) ∈ l := by
  intro l
  induction l with
  | nil => intro h; cases h
  | cons e es ih =>
    intro h
    simp only [extE] at h
    cases hc : (Nat.beq e.tag a && Nat.beq e.t t) && xEqL e.vs vs with
    | true =>
      rw [hc] at h
      simp only [Bool.and_eq_true] at hc
      obtain ⟨⟨h1, h2⟩, h3⟩ := hc
      obtain ⟨ea, et, ev, er⟩ := e
      dsimp only at h1 h2 h3 h
      cases h
      rw [Nat.eq_of_beq_eq_true h1, Nat.eq_of_beq_eq_true h2, xEqL_eq _ _ h3]
      exact List.mem_cons_self
    | false =>
      rw [hc] at h
      exact List.mem_cons_of_mem _ (ih h)
/-- what lies outside is asked of the table -/
noncomputable def extV (tb : Tab) (op : Op) (vs : List Value) : Option Value := match tb.ext with
  | [] => none
  | l => match tagOf op with
    | some (a, t) => extE a t vs l
    | none => none
/-- an operation that leaves memory alone -/
noncomputable def pureE (tb : Tab) (H : Hp) (op : Op) (vs : List Value) : Option Value := match pure0 tb H op vs with
  | some v => some v
  | none => extV tb op vs
theorem extV_mem {op : Op} {vs : List Value} {v : Value} (h : extV tb op vs = some v) : ∃ a t, tagOf op = some (a, t) ∧ (⟨a, t, vs, v⟩ : Xo) ∈ tb.ext := by
  unfold extV at h
  split at h
  · cases h
  · split at h
    · rename_i a t ht
      exact ⟨a, t, ht, extE_mem _ h⟩
    · cases h
theorem pure_sound (htb : tb.Ok σ P) (h : Rel σ E H w) {ρ : Operand → Value} {o : Oper} {vs : List Value} {v : Value} (hv : o.op.operands.toList.map ρ = vs.map (den σ E)) (he : pureE tb H o.op vs = some v) :
    (execOp ρ o).run P w = .ok (.value (den σ E v)) w := by
  unfold pureE at he
  cases hp : pure0 tb H o.op vs with
  | some u =>
    rw [hp] at he
    cases he
    exact pure0_sound htb h hv hp
  | none =>
    rw [hp] at he
    obtain ⟨a, t, ht, hm⟩ := extV_mem he
    exact htb.ext _ hm ρ o w E ht hv fun p hp' => (h.ext p hp').1

noncomputable def zerosOf (z : List Value) (n : Nat) : List Value := (List.range n).map fun i => z.toArray[i % z.length]!
/-- the block, and what its name is to be wrapped in -/
noncomputable def allocE (tb : Tab) (op : Op) (vs : List Value) : Option (AO × (Nat → Value)) :=
  match op with
  | .alloc e => (match vs, zeroE tb e with
    | [], some z => some (.cells z.cells.toList none e, fun n => .pointer (some ⟨n, 0, none⟩))
    | _, _ => none)
  | .box e _ => (match vs with
    | [v] => some (.cells v.cells.toList none e, fun n => .pointer (some ⟨n, 0, none⟩))
    | _ => none)
  | .buildSlice t len parts => (match tb.ty.get t with
    | some y => (match y.desc with
      | .slice e => (match tb.ty.get e, zeroE tb e with
        | some ye, some z => bif Nat.ble (len * ye.info.size) 16777216 && Nat.beq z.cells.toList.length ye.info.size then
            (match Instr.fill (fun i => some (i * ye.info.size, ye.info.size)) (zerosOf z.cells.toList (len * ye.info.size)).toArray ((parts.toList.map (·.1)).zip vs) with
            | some cs => some (.cells cs.toList none e, fun n => .slice (some ⟨n, 0, none⟩) len (2 * len))
            | none => none) else none
        | _, _ => none)
      | _ => none)
    | none => none)
  | .makeMap t r => (match r, vs with
    | none, [] => some (.map [] 0, fun n => .map (some n))
    | some _, [.int _ _] => (match tb.ty.get t with
      | some y => (match y.desc with
        | .map _ _ => some (.map [] 0, fun n => .map (some n))
        | _ => none)
      | none => none)
    | _, _ => none)
  | .makeSlice t _ _ => (match vs with
    | [.int _ (.ofNat l), .int _ (.ofNat c)] => (match tb.ty.get t with
      | some y => (match y.desc with
        | .slice e => (match tb.ty.get e, zeroE tb e with
          | some ye, some z => bif Nat.ble l c && (Nat.ble c 100000 && (Nat.ble ye.info.bytes 100000 && Nat.beq z.cells.toList.length ye.info.size)) then
              some (.cells (zerosOf z.cells.toList (c * ye.info.size)) none e, fun n => .slice (some ⟨n, 0, none⟩) l (2 * c)) else none
          | _, _ => none)
        | _ => none)
      | none => none)
    | _ => none)
  | _ => none

/-- what an operation that makes a block does: a new block, that reads as told, whatever the new name stands for -/
theorem zeros_den (E : Env) {z : List Value} (hz : z.map (den σ E) = z) (n : Nat) : (zerosOf z n).map (den σ E) = zerosOf z n := by
  unfold zerosOf
  rw [List.map_map]
  refine List.map_congr_left fun i _ => ?_
  show den σ E (z.toArray[i % z.length]!) = _
  by_cases hl : i % z.length < z.length
  · have e : z.toArray[i % z.length]! = z[i % z.length] := by simp [hl]
    rw [e]
    have : (z.map (den σ E))[i % z.length]'(by simpa using hl) = den σ E z[i % z.length] := by simp
    rw [← this]
    simp [hz]
  · have e : z.toArray[i % z.length]! = default := by
      rw [getElem!_neg]
      simpa using hl
    rw [e]
    show den σ E (Value.bool default) = _
    rw [den_bool]
    rfl

noncomputable def realO (σ : Sg) (E : Env) : AO → Obj
  | .cells c _ e => .cells (c.map (den σ E)).toArray e (0, 0)
  | .map es cl => .map (es.map (denE σ E)).toArray cl
  | .iter m since seen last => .mapIter (m.map E.blk) since seen.toArray last
noncomputable def noFlex : AO → Prop
  | .cells _ f _ => f = none
  | .map _ _ => True
  | .iter _ _ _ _ => True
theorem realO_rel (E : Env) (b : Nat) {o : AO} (h : noFlex o) : ObjRel σ E b o (some (realO σ E o)) := by
  cases o with
  | cells c f e =>
    cases h
    exact ⟨#[], by simp [realO], rfl⟩
  | map es cl => rfl
  | iter m since seen last => rfl

theorem zeros_arr (z : Array Value) (n : Nat) : ((Array.range n).map (z[· % z.size]!)) = (zerosOf z.toList n).toArray := by
  apply Array.ext'
  simp [zerosOf]

theorem zip_parts {ρ : Operand → Value} {parts : Array (Nat × Operand)} {vs : List Value} (hv : (parts.toList.map (·.2)).map ρ = vs.map (den σ E)) :
    (parts.map fun (i, x) => (i, ρ x)).toList = ((parts.toList.map (·.1)).zip vs).map fun p => (p.1, den σ E p.2) := by
  simp only [Array.toList_map]
  have hv' : parts.toList.map (fun p => ρ p.2) = vs.map (den σ E) := by
    rw [← hv]; simp [Function.comp_def]
  have e2 : ∀ (l : List (Nat × Operand)) (vs : List Value), l.map (fun p => ρ p.2) = vs.map (den σ E) → l.map (fun x => (x.1, ρ x.2)) = ((l.map (·.1)).zip vs).map fun p => (p.1, den σ E p.2) := by
    intro l
    induction l with
    | nil => intro vs _; rfl
    | cons p l ih =>
      intro vs hq
      cases vs with
      | nil => simp at hq
      | cons v vs =>
        simp only [List.map_cons, List.cons.injEq] at hq
        simp only [List.map_cons, List.zip_cons_cons, hq.1, ih vs hq.2]
  exact e2 _ _ hv'

theorem alloc_sound (htb : tb.Ok σ P) {ρ : Operand → Value} {o : Oper} {vs : List Value} {ob : AO} {mk : Nat → Value} (hv : o.op.operands.toList.map ρ = vs.map (den σ E)) (he : allocE tb o.op vs = some (ob, mk)) :
    noFlex ob ∧ ∃ f : Nat → Value, (∀ w : World, (execOp ρ o).run P w = .ok (.value (f w.heap.size)) { w with heap := w.heap.push (realO σ E ob) }) ∧ ∀ (E' : Env) (n : Nat), den σ E' (mk n) = f (E'.blk n) := by
  obtain ⟨dst, op, type, pos, after, guard⟩ := o
  cases op <;> dsimp only [allocE] at he <;> (try (cases he; done))
  case alloc e =>
    split at he
    · rename_i z hz
      cases he
      refine ⟨rfl, fun b => .pointer (some ⟨b, 0, none⟩), fun w => ?_, fun E' n => den_pointer _ _⟩
      obtain ⟨z1, z2, _⟩ := zero_sound htb hz E w
      have zc : z.cells = (z.cells.toList.map (den σ E)).toArray := by
        rw [← Array.toList_map, ← den_cells, z2]
      simp only [execOp, Instr.alloc, Sem.run_bind, z1, Result.andThen_ok, newVar, newRow, run_newObj, Sem.run_pure, realO]
      congr 3
      exact congrArg (fun c => Obj.cells c e (0, 0)) zc
    · cases he
  case box e x =>
    split at he
    · rename_i v
      cases he
      refine ⟨rfl, fun b => .pointer (some ⟨b, 0, none⟩), fun w => ?_, fun E' n => den_pointer _ _⟩
      have hv := map1 (E := E) hv
      simp only [execOp, Instr.box, hv, Sem.run_bind, Result.andThen_ok, newVar, newRow, run_newObj, Sem.run_pure, realO, den_cells]
      congr 3
      refine congrArg (fun c => Obj.cells c e (0, 0)) ?_
      apply Array.ext'
      simp
    · cases he
  case buildSlice t len parts =>
    cases hy : tb.ty.get t with
    | none => rw [hy] at he; cases he
    | some y =>
      rw [hy] at he
      dsimp only at he
      split at he
      · rename_i e hd
        cases hye : tb.ty.get e with
        | none => rw [hye] at he; cases he
        | some ye =>
          cases hz : zeroE tb e with
          | none => rw [hye, hz] at he; cases he
          | some z =>
            rw [hye, hz] at he
            dsimp only at he
            cases hc : (Nat.ble (len * ye.info.size) 16777216 && Nat.beq z.cells.toList.length ye.info.size) with
            | false => rw [hc] at he; cases he
            | true =>
              rw [hc] at he
              simp only [Bool.and_eq_true, Nat.ble_eq] at hc
              obtain ⟨hc, _⟩ := hc
              dsimp only [cond_true] at he
              cases hf : Instr.fill (fun i => some (i * ye.info.size, ye.info.size)) (zerosOf z.cells.toList (len * ye.info.size)).toArray ((parts.toList.map (·.1)).zip vs) with
              | none => rw [hf] at he; cases he
              | some cs =>
                rw [hf] at he
                cases he
                refine ⟨rfl, fun b => .slice (some ⟨b, 0, none⟩) len len, fun w => ?_, fun E' n => ?_⟩
                · obtain ⟨z1, z2, _⟩ := zero_sound htb hz E w
                  have zc : z.cells.toList.map (den σ E) = z.cells.toList := by rw [← Array.toList_map, ← den_cells, z2]
                  have hu := htb.under hy w
                  rw [hd] at hu
                  have hv' : (parts.toList.map (·.2)).map ρ = vs.map (den σ E) := by
                    rw [← hv]; simp [Op.operands]
                  have hfd := fill_den (σ := σ) E (fun i => some (i * ye.info.size, ye.info.size)) ((parts.toList.map (·.1)).zip vs) (zerosOf z.cells.toList (len * ye.info.size)).toArray
                  rw [hf, List.map_toArray, zeros_den E zc, ← zip_parts hv'] at hfd
                  have hn : ¬ len * ye.info.size > 2 ^ 24 := by omega
                  simp only [execOp, Instr.buildSlice, Sem.run_bind, hu, Result.andThen_ok, htb.size hye, if_neg hn]
                  by_cases h0 : len * ye.info.size = 0
                  · have e0 : zerosOf z.cells.toList (len * ye.info.size) = [] := by rw [h0]; rfl
                    rw [e0] at hfd
                    simp only [if_pos h0, Sem.run_bind, Sem.run_pure, Result.andThen_ok]
                    have e1 : ((Array.range (len * ye.info.size)).map ((#[] : Array Value)[· % (#[] : Array Value).size]!)) = #[] := by
                      rw [h0]
                      apply Array.ext'
                      simp
                    rw [e1, hfd]
                    simp only [Option.map_some, newRow, Sem.run_bind, run_newObj, Sem.run_pure, Result.andThen_ok, realO]
                    congr 3
                    rw [← Array.toList_map]
                  · simp only [if_neg h0, Sem.run_bind, z1, Sem.run_pure, Result.andThen_ok]
                    rw [zeros_arr, hfd]
                    simp only [Option.map_some, newRow, Sem.run_bind, run_newObj, Sem.run_pure, Result.andThen_ok, realO]
                    congr 3
                    rw [← Array.toList_map]
                · rw [den_slice, capOf, if_pos (by omega)]
                  simp
      · cases he
  case makeMap t r =>
    split at he
    · cases he
      refine ⟨trivial, fun b => .map (some b), fun w => ?_, fun E' n => den_map _ _⟩
      simp [execOp, Instr.makeMap, realO]
    · rename_i x k n
      cases hy : tb.ty.get t with
      | none => rw [hy] at he; cases he
      | some y =>
        rw [hy] at he
        dsimp only at he
        split at he
        · rename_i kt et hd
          cases he
          refine ⟨trivial, fun b => .map (some b), fun w => ?_, fun E' n => den_map _ _⟩
          have hu := htb.under hy w
          rw [hd] at hu
          have hv : ρ x = den σ E (.int k n) := by simpa [Op.operands] using hv
          simp [execOp, Instr.makeMap, realO, hv, den_int, hu, asInt, asIntOf]
        · cases he
    · cases he
  case makeSlice t lx cx =>
    split at he
    · rename_i k l k' c
      cases hy : tb.ty.get t with
      | none => rw [hy] at he; cases he
      | some y =>
        rw [hy] at he
        dsimp only at he
        split at he
        · rename_i e hd
          cases hye : tb.ty.get e with
          | none => rw [hye] at he; cases he
          | some ye =>
            cases hz : zeroE tb e with
            | none => rw [hye, hz] at he; cases he
            | some z =>
              rw [hye, hz] at he
              dsimp only at he
              cases hc : (Nat.ble l c && (Nat.ble c 100000 && (Nat.ble ye.info.bytes 100000 && Nat.beq z.cells.toList.length ye.info.size))) with
              | false => rw [hc] at he; cases he
              | true =>
                rw [hc] at he
                simp only [Bool.and_eq_true, Nat.ble_eq] at hc
                obtain ⟨c1, c2, c3, _⟩ := hc
                cases he
                refine ⟨rfl, fun b => .slice (some ⟨b, 0, none⟩) l c, fun w => ?_, fun E' n => ?_⟩
                · obtain ⟨z1, z2, _⟩ := zero_sound htb hz E w
                  have zc : z.cells.toList.map (den σ E) = z.cells.toList := by rw [← Array.toList_map, ← den_cells, z2]
                  have hu := htb.under hy w
                  rw [hd] at hu
                  have hi := htb.info e ye hye w
                  have hv : ρ lx = den σ E (.int k (Int.ofNat l)) ∧ ρ cx = den σ E (.int k' (Int.ofNat c)) := by simpa [Op.operands] using hv
                  have w1 : IntKind.i64.wrap (Int.ofNat l) = l := i64_in (by rw [Int.ofNat_eq_natCast]; omega)
                  have w2 : IntKind.i64.wrap (Int.ofNat c) = c := i64_in (by rw [Int.ofNat_eq_natCast]; omega)
                  have hb : ye.info.bytes * c ≤ 100000 * 100000 := Nat.mul_le_mul c3 c2
                  have hb' : ((ye.info.bytes : Int) * (c : Int)) ≤ 10000000000 := by
                    rw [← Int.natCast_mul]
                    omega
                  have hq : ¬ (((ye.info.bytes : Int) * (c : Int)) > 2 ^ 48) := by
                    have : (2 : Int) ^ 48 = 281474976710656 := by decide
                    omega
                  have hneg : ¬ ((c : Int) < 0) := by omega
                  have hneg2 : ¬ ((l : Int) < 0) := by omega
                  have hlc : ¬ ((l : Int) > (c : Int)) := by omega
                  simp only [execOp, Instr.makeSlice, hv.1, hv.2, den_int, Sem.run_bind, hu, asInt, asIntOf, Sem.run_pure, Result.andThen_ok, hi, w1, w2]
                  simp only [hq, hneg, hneg2, hlc, decide_false, Bool.or_false, Bool.false_eq_true, if_false, Sem.run_bind, run_askRoom, Result.andThen_ok, htb.size hye, Int.toNat_natCast]
                  by_cases h0 : c * ye.info.size = 0
                  · simp only [if_pos h0, Sem.run_pure, Result.andThen_ok, newRow, Sem.run_bind, run_newObj, realO]
                    congr 3
                    refine congrArg (fun c => Obj.cells c e (0, 0)) ?_
                    rw [h0]
                    apply Array.ext'
                    simp [zerosOf]
                  · simp only [if_neg h0, Sem.run_bind, z1, Sem.run_pure, Result.andThen_ok, newRow, run_newObj, realO]
                    congr 3
                    rw [zeros_arr, zeros_den E zc]
                · rw [den_slice, capOf, if_pos (by omega)]
                  simp
        · cases he
    · cases he
end
end Go.Proofs.Ytnjfbcoddbeggaa.Sx
