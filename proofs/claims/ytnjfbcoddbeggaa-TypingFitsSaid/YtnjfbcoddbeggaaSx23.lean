/-
  The runner, its program read once: regions, bodies and functions, each operation with what is behind it; it comes to the same.
-/
import Derived.Test.YtnjfbcoddbeggaaSx22
namespace Go.Proofs.Ytnjfbcoddbeggaa.Sx
variable {σ : Sg} {P : Program} {tb : Tab}

inductive CR where
  | mk (f : Frm → Hp → RR)
noncomputable def CR.run (c : CR) : Frm → Hp → RR := CR.rec (motive := fun _ => Frm → Hp → RR) (fun f => f) c
/-- a value that may be kept, written out -/
noncomputable def force (v : Value) (n : Nat) (k : Value → RR) : RR := match v with
  | .int a b => k (.int a b)
  | .bool b => k (.bool b)
  | .string s => k (.string s)
  | .pointer (some ⟨b, off, none⟩) => Bool.rec (motive := fun _ => RR) none (k (.pointer (some ⟨b, off, none⟩))) (Nat.blt b n)
  | v => Bool.rec (motive := fun _ => RR) none (k v) (okV deep n v)
theorem rec_bif {α : Type} (a b : α) (c : Bool) : Bool.rec (motive := fun _ => α) a b c = bif c then b else a := by cases c <;> rfl
theorem force_eq (v : Value) (n : Nat) (k : Value → RR) : force v n k = bif okV deep n v then k v else none := by
  unfold force
  split
  · rfl
  · rfl
  · rfl
  · rename_i b off
    rw [rec_bif]
    show _ = bif Nat.blt b n && true then _ else _
    rw [Bool.and_true]
  · rw [rec_bif]
noncomputable def finR (p : Frm → Value → Frm) (c : CR) (tr : Frm) (v : Value) (H : Hp) : RR := force v H.nx fun v => c.run (p tr v) H
noncomputable def finN (c : CR) (tr : Frm) (v : Value) (H : Hp) : RR := force v H.nx fun _ => c.run tr H
noncomputable def finG (N : Nat) (c : CR) (dst : Option Tmp) (tr : Frm) (v : Value) (H : Hp) : RR := bif okV deep H.nx v then (match Tm.put ⟨tr, N⟩ dst v with
  | some T' => c.run T'.tr H
  | none => none) else none
inductive DC where
  | no
  | none
  | at (p : Frm → Value → Frm)
noncomputable def dstC (N : Nat) : Option Tmp → DC
  | .none => .none
  | some d => match (selC (Nat.div d 16) : SV (N16 Value)), (selC (Nat.mod d 16) : SV Value), Nat.blt d N with
    | .mk g s, .mk _ r, true => .at fun F v => s F (r (g F) v)
    | _, _, _ => .no
noncomputable def slK (r : Option (K × Value × Hp)) (k : Value → Hp → RR) : RR := match r with
  | some (_, v, H') => k v H'
  | none => none
noncomputable def withC (tb : Tab) (F : Fun) (op : Op) (N : Nat) (fin : Frm → Value → Hp → RR) : CR := match evC op.operands.toList with
  | .no => .mk fun _ _ => none
  | .mk ev => (match foC tb op with
    | .no => .mk fun tr H => slK ((opC tb F op).run (ev ⟨tr, N⟩) H) (fin tr)
    | .mk g => .mk fun tr H => g tr H (fin tr) (slK ((opC tb F op).run (ev ⟨tr, N⟩) H) (fin tr)))
theorem withC_eq (F : Fun) (op : Op) (N : Nat) (fin : Frm → Value → Hp → RR) (tr : Frm) (H : Hp) :
    (withC tb F op N fin).run tr H = slowE tb F op ⟨tr, N⟩ H (fin tr) := by
  have hev := evC_eq ⟨tr, N⟩ op.operands.toList
  unfold withC
  cases h2 : evC op.operands.toList with
  | no =>
    rw [h2] at hev
    unfold slowE
    rw [hev]
    rfl
  | mk ev =>
    rw [h2] at hev
    have hs : slK ((opC tb F op).run (ev ⟨tr, N⟩) H) (fin tr) = slowE tb F op ⟨tr, N⟩ H (fin tr) := by
      unfold slowE
      rw [hev, opC_eq]
      unfold slK
      dsimp only
      cases opE tb F H op (ev ⟨tr, N⟩) with
      | none => rfl
      | some q => rfl
    dsimp only
    cases hf : foC tb op with
    | no => exact hs
    | mk g =>
      show g tr H (fin tr) (slK ((opC tb F op).run (ev ⟨tr, N⟩) H) (fin tr)) = _
      rw [hs]
      exact foC_eq hf tr N H (fin tr)
noncomputable def seqR (tb : Tab) (F : Fun) (ops : Array Oper) (N : Nat) : List Oper → CR
  | [] => .mk fun tr H => some (⟨tr, N⟩, H)
  | o :: os => match o.guard, dstC N o.dst with
    | none, .at p => withC tb F o.op N (finR p (seqR tb F ops N os))
    | none, .none => withC tb F o.op N (finN (seqR tb F ops N os))
    | _, _ => .mk fun tr H => bif guardE ops ⟨tr, N⟩ o then slowE tb F o.op ⟨tr, N⟩ H (finG N (seqR tb F ops N os) o.dst tr)
      else (match putU ops ⟨tr, N⟩ o with
        | some T' => (seqR tb F ops N os).run T'.tr H
        | none => none)
theorem finR_eq {d N : Nat} {p : Frm → Value → Frm} (hp : ∀ F v, frPut F d v = some (p F v)) (hd : Nat.blt d N = true) (c : CR) (tr : Frm) : finR p c tr = finG N c (some d) tr := by
  funext v H
  unfold finR finG Tm.put
  rw [force_eq]
  dsimp only
  rw [hp, hd]
  rfl
theorem finN_eq (N : Nat) (c : CR) (tr : Frm) : finN c tr = finG N c none tr := by
  funext v H
  unfold finN finG Tm.put
  rw [force_eq]
theorem put_n {tr : Frm} {N : Nat} {dst : Option Tmp} {v : Value} {T' : Tm} (h : Tm.put ⟨tr, N⟩ dst v = some T') : T' = ⟨T'.tr, N⟩ := by
  cases dst with
  | none => cases h; rfl
  | some d =>
    simp only [Tm.put] at h
    cases hb : Nat.blt d N with
    | false => rw [hb] at h; cases h
    | true =>
      rw [hb] at h
      simp only [cond_true] at h
      cases hp : frPut tr d v with
      | none => rw [hp] at h; cases h
      | some t => rw [hp] at h; cases h; rfl
theorem seqE_slow {F : Fun} {ops : Array Oper} {o : Oper} {os : List Oper} {c : CR} {N : Nat} (ih : ∀ tr H, c.run tr H = seqE tb F ops os ⟨tr, N⟩ H) (tr : Frm) (H : Hp) :
    seqE tb F ops (o :: os) ⟨tr, N⟩ H = bif guardE ops ⟨tr, N⟩ o then slowE tb F o.op ⟨tr, N⟩ H (finG N c o.dst tr)
      else (match putU ops ⟨tr, N⟩ o with
        | some T' => c.run T'.tr H
        | none => none) := by
  rw [seqE]
  cases guardE ops ⟨tr, N⟩ o with
  | false =>
    simp only [cond_false]
    cases hpu : putU ops ⟨tr, N⟩ o with
    | none => rfl
    | some T' =>
      show seqE tb F ops os T' H = c.run T'.tr H
      rw [ih, ← put_n (putU_some hpu).2]
  | true =>
    simp only [cond_true]
    unfold slowE
    cases evL ⟨tr, N⟩ o.op.operands.toList with
    | none => rfl
    | some vs =>
      dsimp only
      cases opE tb F H o.op vs with
      | none => rfl
      | some q =>
        obtain ⟨k, v, H'⟩ := q
        dsimp only
        unfold finG
        cases okV deep H'.nx v with
        | false => rfl
        | true =>
          simp only [cond_true]
          cases hp : Tm.put ⟨tr, N⟩ o.dst v with
          | none => rfl
          | some T' =>
            show seqE tb F ops os T' H' = c.run T'.tr H'
            rw [ih, ← put_n hp]
theorem seqR_eq (F : Fun) (ops : Array Oper) (N : Nat) : ∀ (os : List Oper) (tr : Frm) (H : Hp), (seqR tb F ops N os).run tr H = seqE tb F ops os ⟨tr, N⟩ H
  | [], tr, H => rfl
  | o :: os, tr, H => by
    have ih := seqR_eq F ops N os
    have hg : o.guard = none → guardE ops ⟨tr, N⟩ o = true := fun h => by simp only [guardE, h]
    rw [seqE_slow ih, seqR]
    cases h1 : o.guard with
    | some q =>
      cases h2 : dstC N o.dst <;> rfl
    | none =>
      rw [hg h1]
      simp only [cond_true]
      cases h2 : dstC N o.dst with
      | no =>
        dsimp only
        show (bif guardE ops ⟨tr, N⟩ o then slowE tb F o.op ⟨tr, N⟩ H (finG N (seqR tb F ops N os) o.dst tr) else _) = _
        rw [hg h1]
        rfl
      | none =>
        dsimp only
        rw [withC_eq, finN_eq N]
        cases hd : o.dst with
        | none => rfl
        | some d =>
          rw [hd] at h2
          simp only [dstC] at h2
          split at h2 <;> cases h2
      | «at» p =>
        dsimp only
        cases hd : o.dst with
        | none => rw [hd] at h2; cases h2
        | some d' =>
          rw [hd] at h2
          simp only [dstC] at h2
          split at h2
          · rename_i g1 s1 g2 s2 e1 e2 hb
            cases h2
            have hp : ∀ F v, frPut F d' v = some (s1 F (s2 (g1 F) v)) := fun F v => by
              unfold frPut
              rw [e1, e2]
            rw [withC_eq, finR_eq hp hb]
          · cases h2

noncomputable def condR (x : Operand) (_n : Nat) (T : Tm) (a b : Out) : Out := condC (evE T x) a b
noncomputable def condO (v : Value) (a b : Out) : Out := match v with
  | .bool true => a
  | .bool false => b
  | _ => none
theorem condO_eq (v : Value) (a b : Out) : condO v a b = condC (some v) a b := by
  cases v <;> try rfl
  rename_i x
  cases x <;> rfl
noncomputable def codeR (tb : Tab) (F : Fun) (D : Array Oper → Tm → Hp → Option (Tm × Hp)) (N : Nat) : Code → CC
  | .skip => .mk fun n T H => posC n (some (.normal, T, H))
  | .label _ => .mk fun n T H => posC n (some (.normal, T, H))
  | .seq a b => .mk fun n T H => Nat.rec (motive := fun _ => Out) none (fun n _ => andC ((codeR tb F D N a).run n T H) ((codeR tb F D N b).run n)) n
  | .cond x a b => (match ovC x with
    | .mk g => .mk fun n T H => Nat.rec (motive := fun _ => Out) none (fun n _ => condO (g T.tr) ((codeR tb F D N a).run n T H) ((codeR tb F D N b).run n T H)) n
    | .no => .mk fun n T H => Nat.rec (motive := fun _ => Out) none (fun n _ => condC (evE T x) ((codeR tb F D N a).run n T H) ((codeR tb F D N b).run n T H)) n)
  | .block id b => .mk fun n T H => Nat.rec (motive := fun _ => Out) none (fun n _ => blockC id ((codeR tb F D N b).run n T H)) n
  | .loop b => .mk fun n T H => loopC (codeR tb F D N b).run n T H
  | .exit id => .mk fun n T H => posC n (some (.exit id, T, H))
  | .ret => .mk fun n T H => posC n (some (.ret, T, H))
  | .region _ ops draw => (match draw with
    | true => .mk fun n T H => posC n (regC (D ops T H))
    | false => .mk fun n T H => posC n (regC (Bool.rec (motive := fun _ => Option (Tm × Hp)) (seqE tb F ops ops.toList T H) ((seqR tb F ops N ops.toList).run T.tr H) (Nat.beq T.n N))))
  | _ => .mk fun _ _ _ => none
theorem codeR_eq {F : Fun} {D : Array Oper → Tm → Hp → Option (Tm × Hp)} (hD : ∀ ops T H, D ops T H = drawnE tb F ops T H) (N : Nat) (c : Code) :
    ∀ (n : Nat) (T : Tm) (H : Hp), (codeR tb F D N c).run n T H = codeE tb F n c T H := by
  induction c with
  | seq a b iha ihb =>
    intro n T H
    cases n with
    | zero => rfl
    | succ n =>
      show andC ((codeR tb F D N a).run n T H) ((codeR tb F D N b).run n) = _
      rw [iha, codeE]
      cases h : codeE tb F n a T H with
      | none => rfl
      | some q =>
        obtain ⟨x, T1, H1⟩ := q
        cases x with
        | normal => exact ihb n T1 H1
        | exit id => rfl
        | ret => rfl
  | cond x a b iha ihb =>
    intro n T H
    rw [codeR]
    cases hx : ovC x with
    | no =>
      cases n with
      | zero => rfl
      | succ n =>
        show condC (evE T x) ((codeR tb F D N a).run n T H) ((codeR tb F D N b).run n T H) = _
        rw [iha, ihb, codeE]
        rfl
    | mk g =>
      cases n with
      | zero => rfl
      | succ n =>
        show condO (g T.tr) ((codeR tb F D N a).run n T H) ((codeR tb F D N b).run n T H) = _
        have he : evE T x = some (g T.tr) := ovC_eq hx T.tr T.n
        rw [iha, ihb, codeE, he]
        exact condO_eq _ _ _
  | block id b ihb =>
    intro n T H
    cases n with
    | zero => rfl
    | succ n =>
      show blockC id ((codeR tb F D N b).run n T H) = _
      rw [ihb, codeE]
      rfl
  | loop b ihb =>
    intro n
    induction n with
    | zero => intro T H; rfl
    | succ n ihn =>
      intro T H
      show andC ((codeR tb F D N b).run n T H) (loopC (codeR tb F D N b).run n) = _
      rw [ihb, codeE]
      cases h : codeE tb F n b T H with
      | none => rfl
      | some q =>
        obtain ⟨x, T1, H1⟩ := q
        cases x with
        | normal => exact ihn T1 H1
        | exit id => rfl
        | ret => rfl
  | region id ops draw =>
    intro n T H
    cases draw with
    | true =>
      cases n with
      | zero => rfl
      | succ n =>
        show regC (D ops T H) = _
        rw [hD, codeE]
        rfl
    | false =>
      cases n with
      | zero => rfl
      | succ n =>
        show regC (Bool.rec (motive := fun _ => Option (Tm × Hp)) (seqE tb F ops ops.toList T H) ((seqR tb F ops N ops.toList).run T.tr H) (Nat.beq T.n N)) = _
        rw [seqR_eq, codeE]
        have e : Bool.rec (motive := fun _ => Option (Tm × Hp)) (seqE tb F ops ops.toList T H) (seqE tb F ops ops.toList ⟨T.tr, N⟩ H) (Nat.beq T.n N) = seqE tb F ops ops.toList T H := by
          cases hb : Nat.beq T.n N with
          | false => rfl
          | true =>
            have hn := Nat.eq_of_beq_eq_true hb
            obtain ⟨tr, n⟩ := T
            dsimp only at hn
            subst hn
            rfl
        rw [e]
        rfl
  | _ => intro n T H; cases n <;> rfl

noncomputable def fbR (tb : Tab) (F : Fun) (D : Array Oper → Tm → Hp → Option (Tm × Hp)) (n : Nat) (f : FuncId) : FB := match tb.fn.get f with
  | none => .mk fun _ _ => none
  | some fn => (match fn.body with
    | none => .mk fun _ _ => none
    | some c => .mk fun args H => (match argsE args 0 fr0 with
      | none => none
      | some tr => endC tb fn ((codeR tb F D fn.ntmps c).run n ⟨tr, args.length + (fn.ntmps - args.length)⟩ H)))
theorem ctrE_filter (f : FuncId) (args : List Value) : ∀ l : List Ctr, ctrE f args (l.filter fun c => Nat.beq c.f f) = ctrE f args l
  | [] => rfl
  | c :: l => by
    have ih := ctrE_filter f args l
    cases hc : Nat.beq c.f f with
    | true => rw [List.filter_cons_of_pos (by exact hc), ctrE, ctrE, ih]
    | false => rw [List.filter_cons_of_neg (by simp [hc]), ctrE, ih, hc]; rfl
noncomputable def funR (tb : Tab) (n : Nat) : Fun :=
  Nat.rec (motive := fun _ => Fun) (fun _ _ _ => none) (fun n ih f args H => ctrC (ctrE f args (tb.ctr.filter fun c => Nat.beq c.f f)) H ((fbR tb ih (drawnE tb ih) n f).run args H)) n
theorem fbR_eq {F : Fun} {D : Array Oper → Tm → Hp → Option (Tm × Hp)} (hD : ∀ ops T H, D ops T H = drawnE tb F ops T H) (n : Nat) (f : FuncId) (args : List Value) (H : Hp) :
    (fbR tb F D n f).run args H = (fbC tb F D n f).run args H := by
  unfold fbR fbC
  cases tb.fn.get f with
  | none => rfl
  | some fn =>
    dsimp only
    cases hb : fn.body with
    | none => rfl
    | some c =>
      dsimp only
      show (match argsE args 0 fr0 with
        | none => none
        | some tr => endC tb fn ((codeR tb F D fn.ntmps c).run n ⟨tr, args.length + (fn.ntmps - args.length)⟩ H)) = (match argsE args 0 fr0 with
        | none => none
        | some tr => endC tb fn ((codeC tb F D c).run n ⟨tr, args.length + (fn.ntmps - args.length)⟩ H))
      cases argsE args 0 fr0 with
      | none => rfl
      | some tr =>
        dsimp only
        rw [codeC_eq hD, codeR_eq hD]
theorem funR_eq (tb : Tab) : ∀ n, funR tb n = funE tb n
  | 0 => rfl
  | n + 1 => by
    have ih := funR_eq tb n
    funext f args H
    show ctrC (ctrE f args (tb.ctr.filter fun c => Nat.beq c.f f)) H ((fbR tb (funR tb n) (drawnE tb (funR tb n)) n f).run args H) = _
    rw [ctrE_filter, ih, fbR_eq (fun _ _ _ => rfl), fbC_eq (fun _ _ _ => rfl)]
    rfl
theorem calls_isR {f : FuncId} {args : List Value} {v : Value} (htb : tb.Ok σ P) {n : Nat} (he : isV v (funR tb n f args ⟨.nil, 1⟩) = true) (hargs : args.all (okV deep 1) = true) (hv : flatV v = true) (w : World) (hx : ∀ p ∈ σ.x, w.heap[p.1]? = some p.2) :
    Calls P f (args.map (den σ E00)).toArray w fun e w' => e = .returned (den σ E00 v) ∧ RowKit.Below w.heap.size w w' := by
  rw [funR_eq] at he
  exact calls_isV htb he hargs hv w hx
end Go.Proofs.Ytnjfbcoddbeggaa.Sx
