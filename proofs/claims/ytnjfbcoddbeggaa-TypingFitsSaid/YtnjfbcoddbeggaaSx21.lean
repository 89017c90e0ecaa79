/-
  The runner, its program read once: regions, bodies, functions; it comes to the same.
-/
import Derived.Test.YtnjfbcoddbeggaaSx20
namespace Go.Proofs.Ytnjfbcoddbeggaa.Sx
variable {σ : Sg} {P : Program} {tb : Tab}

inductive CS where
  | mk (f : Tm → Hp → Option (Tm × Hp))
noncomputable def CS.run (c : CS) : Tm → Hp → Option (Tm × Hp) := CS.rec (motive := fun _ => Tm → Hp → Option (Tm × Hp)) (fun f => f) c
noncomputable def okQ (n : Nat) (v : Value) : Bool := match v with
  | .int _ _ => true
  | .bool _ => true
  | .string _ => true
  | v => okV deep n v
theorem okQ_eq (n : Nat) (v : Value) : okQ n v = okV deep n v := by cases v <;> rfl
noncomputable def nextC (c : CS) (dst : Option Tmp) (T : Tm) (r : Option (K × Value × Hp)) : Option (Tm × Hp) := match r with
  | some (_, v, H') => bif okQ H'.nx v then (match T.put dst v with
    | some T' => c.run T' H'
    | none => none) else none
  | none => none
noncomputable def seqC (tb : Tab) (F : Fun) (ops : Array Oper) : List Oper → CS
  | [] => .mk fun T H => some (T, H)
  | o :: os => match o.guard, evC o.op.operands.toList with
    | none, .no => .mk fun _ _ => none
    | none, .mk ev => .mk fun T H => nextC (seqC tb F ops os) o.dst T ((opC tb F o.op).run (ev T) H)
    | some _, .no => .mk fun T H => bif guardE ops T o then none
      else (match putU ops T o with
        | some T' => (seqC tb F ops os).run T' H
        | none => none)
    | some _, .mk ev => .mk fun T H => bif guardE ops T o then nextC (seqC tb F ops os) o.dst T ((opC tb F o.op).run (ev T) H)
      else (match putU ops T o with
        | some T' => (seqC tb F ops os).run T' H
        | none => none)
theorem nextC_eq {F : Fun} {ops : Array Oper} {os : List Oper} {c : CS} (ih : ∀ T H, c.run T H = seqE tb F ops os T H) (dst : Option Tmp) (T : Tm) (r : Option (K × Value × Hp)) :
    nextC c dst T r = (match r with
        | some (_, v, H') => bif okV deep H'.nx v then (match T.put dst v with
          | some T' => seqE tb F ops os T' H'
          | none => none) else none
        | none => none) := by
  cases r with
  | none => rfl
  | some q =>
    obtain ⟨k, v, H'⟩ := q
    simp only [nextC, okQ_eq, ih]
theorem seqC_eq (F : Fun) (ops : Array Oper) : ∀ (os : List Oper) (T : Tm) (H : Hp), (seqC tb F ops os).run T H = seqE tb F ops os T H
  | [], T, H => rfl
  | o :: os, T, H => by
    have ih := seqC_eq F ops os
    have hg : o.guard = none → guardE ops T o = true := fun h => by simp only [guardE, h]
    have hev := evC_eq T o.op.operands.toList
    rw [seqE, seqC]
    cases h1 : o.guard with
    | none =>
      rw [hg h1]
      cases h2 : evC o.op.operands.toList with
      | no =>
        rw [h2] at hev
        rw [hev]
        rfl
      | mk ev =>
        rw [h2] at hev
        rw [hev]
        show nextC _ _ _ _ = _
        rw [opC_eq, nextC_eq ih]
        rfl
    | some q =>
      cases h2 : evC o.op.operands.toList with
      | no =>
        rw [h2] at hev
        rw [hev]
        show (bif guardE ops T o then none else _) = _
        cases guardE ops T o with
        | true => rfl
        | false =>
          simp only [cond_false, ih]
          cases putU ops T o <;> rfl
      | mk ev =>
        rw [h2] at hev
        rw [hev]
        show (bif guardE ops T o then nextC _ _ _ _ else _) = _
        cases guardE ops T o with
        | true =>
          simp only [cond_true]
          rw [opC_eq, nextC_eq ih]
          rfl
        | false =>
          simp only [cond_false, ih]
          cases putU ops T o <;> rfl

inductive CC where
  | mk (f : Nat → Tm → Hp → Option (Ex × Tm × Hp))
noncomputable def CC.run (c : CC) : Nat → Tm → Hp → Option (Ex × Tm × Hp) := CC.rec (motive := fun _ => Nat → Tm → Hp → Option (Ex × Tm × Hp)) (fun f => f) c
abbrev Out := Option (Ex × Tm × Hp)
noncomputable def posC (n : Nat) (x : Out) : Out := Nat.rec (motive := fun _ => Out) none (fun _ _ => x) n
noncomputable def andC (r : Out) (f : Tm → Hp → Out) : Out := match r with
  | some (.normal, T1, H1) => f T1 H1
  | r => r
noncomputable def loopC (g : Nat → Tm → Hp → Out) (n : Nat) : Tm → Hp → Out :=
  Nat.rec (motive := fun _ => Tm → Hp → Out) (fun _ _ => none) (fun n ih T H => andC (g n T H) ih) n
noncomputable def blockC (id : Nat) (r : Out) : Out := match r with
  | some (.exit k, T1, H1) => (match Nat.beq k id with
    | true => some (.normal, T1, H1)
    | false => some (.exit k, T1, H1))
  | r => r
noncomputable def condC (v : Option Value) (x y : Out) : Out := match v with
  | some (.bool true) => x
  | some (.bool false) => y
  | _ => none
noncomputable def regC (r : Option (Tm × Hp)) : Out := match r with
  | some (T1, H1) => some (.normal, T1, H1)
  | none => none
noncomputable def codeC (tb : Tab) (F : Fun) (D : Array Oper → Tm → Hp → Option (Tm × Hp)) : Code → CC
  | .skip => .mk fun n T H => posC n (some (.normal, T, H))
  | .label _ => .mk fun n T H => posC n (some (.normal, T, H))
  | .seq a b => .mk fun n T H => Nat.rec (motive := fun _ => Out) none (fun n _ => andC ((codeC tb F D a).run n T H) ((codeC tb F D b).run n)) n
  | .cond x a b => .mk fun n T H => Nat.rec (motive := fun _ => Out) none (fun n _ => condC (evE T x) ((codeC tb F D a).run n T H) ((codeC tb F D b).run n T H)) n
  | .block id b => .mk fun n T H => Nat.rec (motive := fun _ => Out) none (fun n _ => blockC id ((codeC tb F D b).run n T H)) n
  | .loop b => .mk fun n T H => loopC (codeC tb F D b).run n T H
  | .exit id => .mk fun n T H => posC n (some (.exit id, T, H))
  | .ret => .mk fun n T H => posC n (some (.ret, T, H))
  | .region _ ops draw => (match draw with
    | true => .mk fun n T H => posC n (regC (D ops T H))
    | false => .mk fun n T H => posC n (regC ((seqC tb F ops ops.toList).run T H)))
  | _ => .mk fun _ _ _ => none
theorem codeC_eq {F : Fun} {D : Array Oper → Tm → Hp → Option (Tm × Hp)} (hD : ∀ ops T H, D ops T H = drawnE tb F ops T H) (c : Code) :
    ∀ (n : Nat) (T : Tm) (H : Hp), (codeC tb F D c).run n T H = codeE tb F n c T H := by
  induction c with
  | seq a b iha ihb =>
    intro n T H
    cases n with
    | zero => rfl
    | succ n =>
      show andC ((codeC tb F D a).run n T H) ((codeC tb F D b).run n) = _
      rw [iha, codeE]
      cases h : codeE tb F n a T H with
      | none => rfl
      | some q =>
        obtain ⟨x, T1, H1⟩ := q
        cases x with
        | normal => exact ihb n T1 H1
        | exit id => rfl
        | ret => rfl
  | cond x a b iha ihb =>
    intro n T H
    cases n with
    | zero => rfl
    | succ n =>
      show condC (evE T x) ((codeC tb F D a).run n T H) ((codeC tb F D b).run n T H) = _
      rw [iha, ihb, codeE]
      rfl
  | block id b ihb =>
    intro n T H
    cases n with
    | zero => rfl
    | succ n =>
      show blockC id ((codeC tb F D b).run n T H) = _
      rw [ihb, codeE]
      rfl
  | loop b ihb =>
    intro n
    induction n with
    | zero => intro T H; rfl
    | succ n ihn =>
      intro T H
      show andC ((codeC tb F D b).run n T H) (loopC (codeC tb F D b).run n) = _
      rw [ihb, codeE]
      cases h : codeE tb F n b T H with
      | none => rfl
      | some q =>
        obtain ⟨x, T1, H1⟩ := q
        cases x with
        | normal => exact ihn T1 H1
        | exit id => rfl
        | ret => rfl
  | region id ops draw =>
    intro n T H
    cases draw with
    | true =>
      cases n with
      | zero => rfl
      | succ n =>
        show regC (D ops T H) = _
        rw [hD, codeE]
        rfl
    | false =>
      cases n with
      | zero => rfl
      | succ n =>
        show regC ((seqC tb F ops ops.toList).run T H) = _
        rw [seqC_eq, codeE]
        rfl
  | _ => intro n T H; cases n <;> rfl

inductive FB where
  | mk (f : List Value → Hp → Option (Value × Hp))
noncomputable def FB.run (c : FB) : List Value → Hp → Option (Value × Hp) := FB.rec (motive := fun _ => List Value → Hp → Option (Value × Hp)) (fun f => f) c
noncomputable def endC (tb : Tab) (fn : Func) (r : Out) : Option (Value × Hp) := match r with
  | some (.exit _, _, _) => none
  | some (_, T, H') => (match resE tb T H' fn.results.toList with
    | some vs => bif okV deep H'.nx (oneE vs) then some (oneE vs, H') else none
    | none => none)
  | none => none
noncomputable def fbC (tb : Tab) (F : Fun) (D : Array Oper → Tm → Hp → Option (Tm × Hp)) (n : Nat) (f : FuncId) : FB := match tb.fn.get f with
  | none => .mk fun _ _ => none
  | some fn => (match fn.body with
    | none => .mk fun _ _ => none
    | some c => .mk fun args H => (match argsE args 0 fr0 with
      | none => none
      | some tr => endC tb fn ((codeC tb F D c).run n ⟨tr, args.length + (fn.ntmps - args.length)⟩ H)))
noncomputable def ctrC (o : Option Value) (H : Hp) (r : Option (Value × Hp)) : Option (Value × Hp) := match o with
  | some v => bif okV deep H.nx v then some (v, H) else none
  | none => r
noncomputable def funC (tb : Tab) (n : Nat) : Fun :=
  Nat.rec (motive := fun _ => Fun) (fun _ _ _ => none) (fun n ih f args H => ctrC (ctrE f args tb.ctr) H ((fbC tb ih (drawnE tb ih) n f).run args H)) n
theorem fbC_eq {F : Fun} {D : Array Oper → Tm → Hp → Option (Tm × Hp)} (hD : ∀ ops T H, D ops T H = drawnE tb F ops T H) (n : Nat) (f : FuncId) (args : List Value) (H : Hp) :
    (fbC tb F D n f).run args H = (match tb.fn.get f with
    | none => none
    | some fn => match fn.body with
      | none => none
      | some c => match argsE args 0 fr0 with
        | none => none
        | some tr => match codeE tb F n c ⟨tr, args.length + (fn.ntmps - args.length)⟩ H with
          | some (.exit _, _, _) => none
          | some (_, T, H') => (match resE tb T H' fn.results.toList with
            | some vs => bif okV deep H'.nx (oneE vs) then some (oneE vs, H') else none
            | none => none)
          | none => none) := by
  unfold fbC
  cases tb.fn.get f with
  | none => rfl
  | some fn =>
    dsimp only
    cases hb : fn.body with
    | none => rfl
    | some c =>
      dsimp only
      show (match argsE args 0 fr0 with
        | none => none
        | some tr => endC tb fn ((codeC tb F D c).run n ⟨tr, args.length + (fn.ntmps - args.length)⟩ H)) = _
      cases argsE args 0 fr0 with
      | none => rfl
      | some tr =>
        dsimp only
        rw [codeC_eq hD]
        rfl
theorem funC_eq (tb : Tab) : ∀ n, funC tb n = funE tb n
  | 0 => rfl
  | n + 1 => by
    have ih := funC_eq tb n
    funext f args H
    show ctrC (ctrE f args tb.ctr) H ((fbC tb (funC tb n) (drawnE tb (funC tb n)) n f).run args H) = _
    rw [ih, fbC_eq (fun _ _ _ => rfl)]
    rfl
theorem calls_isC {f : FuncId} {args : List Value} {v : Value} (htb : tb.Ok σ P) {n : Nat} (he : isV v (funC tb n f args ⟨.nil, 1⟩) = true) (hargs : args.all (okV deep 1) = true) (hv : flatV v = true) (w : World) (hx : ∀ p ∈ σ.x, w.heap[p.1]? = some p.2) :
    Calls P f (args.map (den σ E00)).toArray w fun e w' => e = .returned (den σ E00 v) ∧ RowKit.Below w.heap.size w w' := by
  rw [funC_eq] at he
  exact calls_isV htb he hargs hv w hx
end Go.Proofs.Ytnjfbcoddbeggaa.Sx
