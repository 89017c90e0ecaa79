/-
  Runs of closed code: one operation as the walk meets it; regions in the order of their text.
-/
import Derived.Test.YtnjfbcoddbeggaaSx12
namespace Go.Proofs.Ytnjfbcoddbeggaa.Sx
open Go
variable {σ : Sg}

inductive K where
  | pure | alloc | chain

/-- what a call of a function comes to -/
abbrev Fun := FuncId → List Value → Hp → Option (Value × Hp)

noncomputable def FunOk (σ : Sg) (P : Program) (F : Fun) : Prop := ∀ f args H v H', F f args H = some (v, H') → okV deep H'.nx v = true ∧
  ∀ E w, Rel σ E H w → (∀ x ∈ args, okV deep H.nx x = true) → Calls P f (args.map (den σ E)).toArray w fun e w' => ∃ E', e = .returned (den σ E' v) ∧ Rel σ E' H' w' ∧ Fr E H w E' H' w'

/-- one operation: of which kind, its value, memory behind it -/
noncomputable def opE (tb : Tab) (F : Fun) (H : Hp) (op : Op) (vs : List Value) : Option (K × Value × Hp) :=
  match pureE tb H op vs with
  | some v => some (.pure, v, H)
  | none => match allocE tb op vs with
    | some (ob, mk) => bif okO H.nx ob then (match H.add ob with
      | some H' => some (.alloc, mk H.nx, H')
      | none => none) else none
    | none => match heapE tb H op vs with
      | some (ov, H') => some (.chain, ov.getD undef, H')
      | none => match callE op vs with
        | some (f, args) => (match tb.fn.get f with
          | some _ => (match F f args H with
            | some (v, H') => some (.chain, v, H')
            | none => none)
          | none => none)
        | none => none

section
variable {P : Program} {tb : Tab} {F : Fun} {E : Env} {H : Hp} {w : World}

theorem callE_ok {op : Op} {vs : List Value} {f : FuncId} {args : List Value} {n : Nat} (he : callE op vs = some (f, args)) (hv : ∀ v ∈ vs, okV deep n v = true) : ∀ x ∈ args, okV deep n x = true := by
  unfold callE at he
  split at he
  · split at he
    · rename_i _ f' first captured args' _
      cases he
      have h0 := hv _ List.mem_cons_self
      have h1 : (first.toList.all (okV 5 n) = true) ∧ captured.toList.all (okV 5 n) = true := by
        have : okV (5 + 1) n (.func (.func f) first captured) = true := h0
        rw [okV_func 5] at this
        simp only [Bool.and_eq_true] at this
        exact ⟨this.1.2, this.2⟩
      have up : ∀ x, okV 5 n x = true → okV deep n x = true := by
        intro x hx
        exact okV_up _ _ hx
      intro x hx
      rcases List.mem_append.1 hx with hx | hx
      · rcases List.mem_append.1 hx with hx | hx
        · exact up x (List.all_eq_true.1 h1.1 x hx)
        · exact hv x (List.mem_cons_of_mem _ hx)
      · exact up x (List.all_eq_true.1 h1.2 x hx)
    · cases he
  · cases he

/-- one operation, as the walk meets it -/
theorem op_wp (htb : tb.Ok σ P) (hF : FunOk σ P F) (h : Rel σ E H w) {o : Oper} {a : Act} {vs : List Value} {k : K} {v : Value} {H' : Hp} {next : Act → World → Prop} {Q : Exit → Act → World → Prop}
    (hv : o.op.operands.toList.map a.eval = vs.map (den σ E)) (hok : ∀ x ∈ vs, okV deep H.nx x = true) (he : opE tb F H o.op vs = some (k, v, H'))
    (hn : ∀ E' w', Rel σ E' H' w' → Fr E H w E' H' w' → next (a.put o.dst (den σ E' v)) w') : o.wp P a w next Q := by
  unfold Oper.wp
  unfold opE at he
  cases hp : pureE tb H o.op vs with
  | some v' =>
    rw [hp] at he
    cases he
    rw [pure_sound htb h hv hp]
    exact hn E w h (Fr.refl _ _ _)
  | none =>
    rw [hp] at he
    dsimp only at he
    cases ha : allocE tb o.op vs with
    | some p =>
      obtain ⟨ob, mk⟩ := p
      rw [ha] at he
      dsimp only at he
      cases hc : okO H.nx ob with
      | false => rw [hc] at he; cases he
      | true =>
        rw [hc] at he
        dsimp only [cond_true] at he
        cases hd : H.add ob with
        | none => rw [hd] at he; cases he
        | some H1 =>
          rw [hd] at he
          cases he
          obtain ⟨hnf, f, hf1, hf2⟩ := alloc_sound (P := P) htb hv ha
          rw [hf1 w]
          have hext := Env.upd_ext E H.nx w.heap.size 0
          have hrel : ObjRel σ (E.upd H.nx w.heap.size 0) H.nx ob (some (realO σ E ob)) := by
            have h1 := realO_rel (σ := σ) E H.nx hnf
            cases ob with
            | cells c fx e =>
              cases hnf
              refine ⟨#[], ?_, rfl⟩
              have hm : c.map (den σ (E.upd H.nx w.heap.size 0)) = c.map (den σ E) := by
                refine List.map_congr_left fun x hx => den_ext hext deep x ?_
                exact List.all_eq_true.1 hc x hx
              rw [hm]
              simp [realO]
            | map es cl =>
              have hm : es.map (denE σ (E.upd H.nx w.heap.size 0)) = es.map (denE σ E) := by
                refine List.map_congr_left fun x hx => ?_
                have := List.all_eq_true.1 hc x hx
                simp only [okE, Bool.and_eq_true] at this
                simp only [denE, den_ext hext deep _ this.1, den_ext hext deep _ this.2]
              show _ = _
              rw [hm]
              rfl
            | iter m since seen last =>
              have hm := iter_ext hext hc
              show _ = _
              rw [hm]
              rfl
          obtain ⟨q1, q2⟩ := h.fresh 0 hd hc hrel
          have := hn _ _ q1 q2
          rw [hf2, Env.upd_blk] at this
          exact this
    | none =>
      rw [ha] at he
      dsimp only at he
      cases hh : heapE tb H o.op vs with
      | some p =>
        obtain ⟨ov, H1⟩ := p
        rw [hh] at he
        cases he
        obtain ⟨E', w', r1, r2, r3⟩ := heap_sound htb h hv hh
        rw [r1]
        have := hn E' w' r2 r3
        cases ov with
        | none => rw [Option.getD_none, den_undef] at this; exact this
        | some u => exact this
      | none =>
        rw [hh] at he
        dsimp only at he
        cases hcl : callE o.op vs with
        | none => rw [hcl] at he; cases he
        | some p =>
          obtain ⟨f, args⟩ := p
          rw [hcl] at he
          dsimp only at he
          cases hg : tb.fn.get f with
          | none => rw [hg] at he; cases he
          | some g =>
            rw [hg] at he
            dsimp only at he
            cases hr : F f args H with
            | none => rw [hr] at he; cases he
            | some p =>
              obtain ⟨v', H1⟩ := p
              rw [hr] at he
              cases he
              rw [call_sound (P := P) htb hg hv hcl]
              refine ((hF f args H _ _ hr).2 E w h (callE_ok hcl hok)).mono ?_
              rintro e w' ⟨E', rfl, h1, h2⟩
              exact hn E' w' h1 h2

/-! ### regions in the order of their text -/
noncomputable def guardE (ops : Array Oper) (T : Tm) (o : Oper) : Bool := match o.guard with
  | none => true
  | some (j, want) => (match (ops[j]?).bind (·.dst) with
    | some d => (match T.at d with
      | .bool b => bif want then b else !b
      | _ => false)
    | none => false)

/-- a guard is no truth that lies outside -/
noncomputable def gokE (ops : Array Oper) (T : Tm) (o : Oper) : Bool := match o.guard with
  | none => true
  | some (j, _) => (match (ops[j]?).bind (·.dst) with
    | some d => (match T.at d with
      | .float .f32 _ => false
      | _ => true)
    | none => true)
theorem gok_of {ops : Array Oper} {T : Tm} {o : Oper} (h : guardE ops T o = true) : gokE ops T o = true := by
  unfold guardE at h
  unfold gokE
  cases hg : o.guard with
  | none => rfl
  | some p =>
    obtain ⟨j, want⟩ := p
    rw [hg] at h
    dsimp only at h ⊢
    cases hd : (ops[j]?).bind (·.dst) with
    | none => rfl
    | some d =>
      rw [hd] at h
      dsimp only at h ⊢
      cases hv : T.at d with
      | float k b => rw [hv] at h; cases h
      | _ => rfl
noncomputable def putU (ops : Array Oper) (T : Tm) (o : Oper) : Option Tm := bif gokE ops T o then T.put o.dst undef else none
theorem putU_some {ops : Array Oper} {T T' : Tm} {o : Oper} (h : putU ops T o = some T') : gokE ops T o = true ∧ T.put o.dst undef = some T' := by
  unfold putU at h
  cases hg : gokE ops T o with
  | false => rw [hg] at h; cases h
  | true => rw [hg] at h; exact ⟨rfl, h⟩
theorem guard_sound {ops : Array Oper} {T : Tm} {a : Act} {o : Oper} (_hsz : a.tmps.size = T.n) (hk : gokE ops T o = true) (h : ∀ j want d, o.guard = some (j, want) → (ops[j]?).bind (·.dst) = some d → a.tmps.getD d undef = den σ E (T.at d)) :
    Region.wanted o (yielded ops a.tmps) = guardE ops T o := by
  unfold Region.wanted guardE
  cases hg : o.guard with
  | none => rfl
  | some p =>
    obtain ⟨j, want⟩ := p
    dsimp only
    cases hd : (ops[j]?).bind (·.dst) with
    | none => simp [yielded, hd]
    | some d =>
      have := h j want d hg hd
      dsimp only
      by_cases hlt : d < a.tmps.size
      · have e : a.tmps[d]? = some (den σ E (T.at d)) := by
          rw [← this]; simp [hlt]
        have hy : yielded ops a.tmps j = (match den σ E (T.at d) with | .bool b => some b | _ => none) := by
          simp only [yielded, hd, Option.bind_some, e]
          cases den σ E (T.at d) <;> rfl
        rw [hy]
        cases hv : T.at d with
        | bool b => rw [den_bool]; cases want <;> cases b <;> rfl
        | agg cs => rw [den_agg]; cases want <;> rfl
        | pointer p => cases p <;> simp only [den_pnil, den_pointer] <;> cases want <;> rfl
        | slice p l c => cases p <;> simp only [den_snil, den_slice] <;> cases want <;> rfl
        | map p => cases p <;> simp only [den_mnil, den_map] <;> cases want <;> rfl
        | float k b =>
          cases k with
          | f64 => simp only [den] <;> cases want <;> rfl
          | f32 =>
            unfold gokE at hk
            rw [hg] at hk
            dsimp only at hk
            rw [hd] at hk
            dsimp only at hk
            rw [hv] at hk
            cases hk
        | _ => simp only [den] <;> cases want <;> rfl
      · have e : a.tmps[d]? = none := by simp [hlt]
        have e2 : a.tmps.getD d undef = undef := by simp [hlt]
        rw [e2] at this
        have hy : yielded ops a.tmps j = none := by simp [yielded, hd, e]
        rw [hy]
        cases hv : T.at d with
        | bool b => rw [hv, den_bool] at this; simp [undef] at this
        | _ => cases want <;> rfl

noncomputable def seqE (tb : Tab) (F : Fun) (ops : Array Oper) : List Oper → Tm → Hp → Option (Tm × Hp)
  | [], T, H => some (T, H)
  | o :: os, T, H => bif guardE ops T o then
      (match evL T o.op.operands.toList with
      | some vs => (match opE tb F H o.op vs with
        | some (_, v, H') => bif okV deep H'.nx v then (match T.put o.dst v with
          | some T' => seqE tb F ops os T' H'
          | none => none) else none
        | none => none)
      | none => none)
    else (match putU ops T o with
      | some T' => seqE tb F ops os T' H
      | none => none)

theorem okV_undef (n : Nat) : okV deep n undef = true := rfl

theorem seq_wp (htb : tb.Ok σ P) (hF : FunOk σ P F) {ops : Array Oper} {Q : Exit → Act → World → Prop} {T' : Tm} {H' : Hp} : ∀ (os : List Oper) (i : Nat) (T : Tm) (H : Hp) (E : Env) (a : Act) (w : World),
    ops.toList.drop i = os → seqE tb F ops os T H = some (T', H') → Rel σ E H w → TmRel σ E T a → OkT H.nx T →
    (∀ E' a' w', Rel σ E' H' w' → TmRel σ E' T' a' → OkT H'.nx T' → Fr E H w E' H' w' → a'.defers = a.defers → Q .normal a' w') →
    wpOps P ops Q (List.range' i os.length) a w := by
  intro os
  induction os with
  | nil =>
    intro i T H E a w _ he h hT hO hQ
    cases he
    exact hQ E a w h hT hO (Fr.refl _ _ _) rfl
  | cons o os ih =>
    intro i T H E a w hd he h hT hO hQ
    have ho : ops[i]? = some o := by
      have : (ops.toList.drop i)[0]? = some o := by rw [hd]; rfl
      simpa using this
    have hd' : ops.toList.drop (i + 1) = os := by
      rw [← List.drop_drop, hd]; rfl
    simp only [List.length_cons, List.range'_succ, wpOps, ho]
    simp only [seqE] at he
    have hk : gokE ops T o = true := by
      cases hw : guardE ops T o with
      | true => exact gok_of hw
      | false =>
        rw [hw] at he
        dsimp only [cond_false] at he
        cases hp : putU ops T o with
        | none => rw [hp] at he; cases he
        | some T1 => exact (putU_some hp).1
    have hg := guard_sound (E := E) (ops := ops) (o := o) hT.1 hk (fun _ _ d _ _ => hT.2 d)
    rw [hg]
    cases hw : guardE ops T o with
    | true =>
      rw [hw] at he
      dsimp only [cond_true] at he
      simp only [if_true]
      cases hvs : evL T o.op.operands.toList with
      | none => rw [hvs] at he; cases he
      | some vs =>
        rw [hvs] at he
        dsimp only at he
        cases hop : opE tb F H o.op vs with
        | none => rw [hop] at he; cases he
        | some q =>
          obtain ⟨k, v, H1⟩ := q
          rw [hop] at he
          dsimp only at he
          cases hok : okV deep H1.nx v with
          | false => rw [hok] at he; cases he
          | true =>
            rw [hok] at he
            dsimp only [cond_true] at he
            cases hp : T.put o.dst v with
            | none => rw [hp] at he; cases he
            | some T1 =>
              rw [hp] at he
              dsimp only at he
              refine .inl (op_wp htb hF h (evL_sound hT _ _ hvs) (evL_ok hO _ _ hvs) hop ?_)
              intro E1 w1 r1 r2
              refine ih (i + 1) T1 H1 E1 _ w1 hd' he r1 ((hT.ext hO r2.ext).put hp) ((hO.mono r2.nx).put hok hp) ?_
              intro E' a' w' q1 q2 q3 q4 q5
              refine hQ E' a' w' q1 q2 q3 (r2.trans q4) (q5.trans ?_)
              cases o.dst <;> rfl
    | false =>
      rw [hw] at he
      dsimp only [cond_false] at he
      simp only [Bool.false_eq_true, if_false]
      cases hpu : putU ops T o with
      | none => rw [hpu] at he; cases he
      | some T1 =>
        rw [hpu] at he
        dsimp only at he
        have hp := (putU_some hpu).2
        have hT1 := hT.put hp
        rw [den_undef] at hT1
        refine ih (i + 1) T1 H E _ w hd' he h hT1 (hO.put (okV_undef _) hp) ?_
        intro E' a' w' q1 q2 q3 q4 q5
        refine hQ E' a' w' q1 q2 q3 q4 (q5.trans ?_)
        cases o.dst <;> rfl
end
end Go.Proofs.Ytnjfbcoddbeggaa.Sx
