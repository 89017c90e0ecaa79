/-
  The runner: regions whose order is open, their operations read once; it comes to the same.
-/
import Derived.Test.YtnjfbcoddbeggaaSx23
namespace Go.Proofs.Ytnjfbcoddbeggaa.Sx
variable {σ : Sg} {P : Program} {tb : Tab}

noncomputable def recF (tb : Tab) (F : Fun) (ops : Array Oper) : List Oper → Tm → Hp → Nat → Option (List Rec × List Hp × Tm × Hp)
  | [], T, H, _ => some ([], [H], T, H)
  | o :: os, T, H, p => bif guardE ops T o then
      (match evC o.op.operands.toList with
      | .mk ev => (match (opC tb F o.op).run (ev T) H with
        | some (k, v, H') => bif okQ H'.nx v then (match T.put o.dst v with
          | some T' => (match k with
            | .pure => (match recF tb F ops os T' H p with
              | some (rs, hs, q) => some (⟨o, T, H, p, true, ev T, .pure, v, H⟩ :: rs, hs, q)
              | none => none)
            | k => (match recF tb F ops os T' H' (p + 1) with
              | some (rs, hs, q) => some (⟨o, T, H, p, true, ev T, k, v, H'⟩ :: rs, H :: hs, q)
              | none => none))
          | none => none) else none
        | none => none)
      | .no => none)
    else (match putU ops T o with
      | some T' => (match recF tb F ops os T' H p with
        | some (rs, hs, q) => some (⟨o, T, H, p, false, [], .pure, undef, H⟩ :: rs, hs, q)
        | none => none)
      | none => none)
theorem recF_eq (F : Fun) (ops : Array Oper) : ∀ (os : List Oper) (T : Tm) (H : Hp) (p : Nat), recF tb F ops os T H p = recE tb F ops os T H p
  | [], _, _, _ => rfl
  | o :: os, T, H, p => by
    have ih := recF_eq F ops os
    have hev := evC_eq T o.op.operands.toList
    rw [recF, recE]
    cases guardE ops T o with
    | false =>
      simp only [cond_false, ih]
      rfl
    | true =>
      simp only [cond_true]
      cases h2 : evC o.op.operands.toList with
      | no =>
        rw [h2] at hev
        rw [hev]
      | mk ev =>
        rw [h2] at hev
        rw [hev]
        simp only [opC_eq, okQ_eq, ih]
        rfl
noncomputable def okPF (p : Nat → Bool) (v : Value) : Bool := match v with
  | .int _ _ => true
  | .bool _ => true
  | .string _ => true
  | v => okP deep p v
theorem okPF_eq (p : Nat → Bool) (v : Value) : okPF p v = okP deep p v := by cases v <;> rfl
noncomputable def asPure (r : Option (K × Value × Hp)) : Option Value := match r with
  | some (.pure, v, _) => some v
  | _ => none
theorem asPure_eq (F : Fun) (H : Hp) (op : Op) (vs : List Value) : asPure ((opC tb F op).run vs H) = pureE tb H op vs := by
  rw [opC_eq]
  cases hp : pureE tb H op vs with
  | some v => rw [opE_mkp hp]; rfl
  | none =>
    cases ho : opE tb F H op vs with
    | none => rfl
    | some q =>
      obtain ⟨k, v, H'⟩ := q
      cases k with
      | pure => rw [(opE_pure ho).1] at hp; cases hp
      | alloc => rfl
      | chain => rfl
noncomputable def rangeF (tb : Tab) (F : Fun) (H0 : Hp) (hs : List Hp) (r : Rec) (lo hi : Nat) : Bool :=
  (List.range (hi + 1)).all fun q => Nat.blt q lo || (Nat.beq q r.p || (match asPure ((opC tb F r.o.op).run r.vs (hAt H0 hs q)) with
    | some v => vEq 60 v r.v
    | none => false))
theorem rangeF_eq (F : Fun) (H0 : Hp) (hs : List Hp) (r : Rec) (lo hi : Nat) : rangeF tb F H0 hs r lo hi = rangeE tb H0 hs r lo hi := by
  unfold rangeF rangeE
  simp only [asPure_eq]
  rfl
noncomputable def dynF (tb : Tab) (F : Fun) (H0 : Hp) (rs : List Rec) (hs : List Hp) (M : List Nat) (sl : List (Nat × Nat × Rec)) : Bool :=
  rs.zipIdx.all fun (r, i) => okPF (pmE H0 hs sl i (M.getD i 0)) r.v && (match r.k with
    | .pure => !r.w || (stillOp r.o.op || rangeF tb F H0 hs r (loE sl i (M.getD i 0)) (hiE sl i (hs.length - 1)))
    | .alloc => Nat.ble r.H.nx r.H'.nx && (match r.H'.get r.H.nx with
      | some ob => okOP (pmE H0 hs sl i (M.getD i 0)) ob
      | none => false)
    | .chain => Nat.ble r.H.nx r.H'.nx && sl.all fun x => Nat.ble r.p x.2.2.p || bitE (M.getD i 0) x.1)
theorem dynF_eq (F : Fun) (H0 : Hp) (rs : List Rec) (hs : List Hp) (M : List Nat) (sl : List (Nat × Nat × Rec)) : dynF tb F H0 rs hs M sl = dynE tb H0 rs hs M sl := by
  unfold dynF dynE
  simp only [okPF_eq, rangeF_eq]
  rfl
noncomputable def drawnF (tb : Tab) (F : Fun) (ops : Array Oper) (T : Tm) (H : Hp) : Option (Tm × Hp) :=
  match recF tb F ops ops.toList T H 0 with
  | some (rs, hs, T2, H2) => bif statE ops (masksE ops.toList []) && dynF tb F H rs hs (masksE ops.toList []) (slE rs (masksE ops.toList [])) then some (T2, H2) else none
  | none => none
theorem drawnF_eq (F : Fun) (ops : Array Oper) (T : Tm) (H : Hp) : drawnF tb F ops T H = drawnE tb F ops T H := by
  unfold drawnF drawnE
  rw [recF_eq]
  simp only [dynF_eq]
  rfl
noncomputable def funS (tb : Tab) (n : Nat) : Fun :=
  Nat.rec (motive := fun _ => Fun) (fun _ _ _ => none) (fun n ih f args H => ctrC (ctrE f args (tb.ctr.filter fun c => Nat.beq c.f f)) H ((fbR tb ih (drawnF tb ih) n f).run args H)) n
theorem funS_eq (tb : Tab) : ∀ n, funS tb n = funE tb n
  | 0 => rfl
  | n + 1 => by
    have ih := funS_eq tb n
    funext f args H
    show ctrC (ctrE f args (tb.ctr.filter fun c => Nat.beq c.f f)) H ((fbR tb (funS tb n) (drawnF tb (funS tb n)) n f).run args H) = _
    rw [ctrE_filter, ih, fbR_eq (drawnF_eq _), fbC_eq (drawnF_eq _)]
    rfl
theorem calls_isS {f : FuncId} {args : List Value} {v : Value} (htb : tb.Ok σ P) {n : Nat} (he : isV v (funS tb n f args ⟨.nil, 1⟩) = true) (hargs : args.all (okV deep 1) = true) (hv : flatV v = true) (w : World) (hx : ∀ p ∈ σ.x, w.heap[p.1]? = some p.2) :
    Calls P f (args.map (den σ E00)).toArray w fun e w' => e = .returned (den σ E00 v) ∧ RowKit.Below w.heap.size w w' := by
  rw [funS_eq] at he
  exact calls_isV htb he hargs hv w hx
end Go.Proofs.Ytnjfbcoddbeggaa.Sx
