/-
  Runs of closed code: bodies and functions.
-/
import Derived.Test.YtnjfbcoddbeggaaSx18
namespace Go.Proofs.Ytnjfbcoddbeggaa.Sx
open Go
variable {σ : Sg}

inductive Ex where
  | normal
  | exit (id : Nat)
  | ret
noncomputable def Ex.to : Ex → Exit
  | .normal => .normal
  | .exit id => .exit id
  | .ret => .ret

noncomputable def codeE (tb : Tab) (F : Fun) : Nat → Code → Tm → Hp → Option (Ex × Tm × Hp)
  | 0, _, _, _ => none
  | n + 1, c, T, H => match c with
    | .skip => some (.normal, T, H)
    | .label _ => some (.normal, T, H)
    | .seq a b => (match codeE tb F n a T H with
      | some (.normal, T1, H1) => codeE tb F n b T1 H1
      | r => r)
    | .cond x a b => (match evE T x with
      | some (.bool true) => codeE tb F n a T H
      | some (.bool false) => codeE tb F n b T H
      | _ => none)
    | .block id b => (match codeE tb F n b T H with
      | some (.exit k, T1, H1) => (match Nat.beq k id with
        | true => some (.normal, T1, H1)
        | false => some (.exit k, T1, H1))
      | r => r)
    | .loop b => (match codeE tb F n b T H with
      | some (.normal, T1, H1) => codeE tb F n (.loop b) T1 H1
      | r => r)
    | .exit id => some (.exit id, T, H)
    | .ret => some (.ret, T, H)
    | .region _ ops draw => (match (match draw with
      | true => drawnE tb F ops T H
      | false => seqE tb F ops ops.toList T H) with
      | some (T1, H1) => some (.normal, T1, H1)
      | none => none)
    | _ => none

section
variable {P : Program} {tb : Tab} {F : Fun}

/-- what a body comes to is what the walk comes to -/
noncomputable def CodeOk (σ : Sg) (P : Program) (c : Code) (T : Tm) (H : Hp) (x : Ex) (T' : Tm) (H' : Hp) : Prop :=
  ∀ (Q : Exit → Act → World → Prop) (E : Env) (a : Act) (w : World), Rel σ E H w → TmRel σ E T a → OkT H.nx T →
    (∀ E' a' w', Rel σ E' H' w' → TmRel σ E' T' a' → OkT H'.nx T' → Fr E H w E' H' w' → a'.defers = a.defers → Q x.to a' w') → c.wp P Q a w
noncomputable def RoundsOk (σ : Sg) (P : Program) (c : Code) (T : Tm) (H : Hp) (x : Ex) (T' : Tm) (H' : Hp) : Prop :=
  ∃ m, ∀ (Q : Exit → Act → World → Prop) (E : Env) (a : Act) (w : World), Rel σ E H w → TmRel σ E T a → OkT H.nx T →
    (∀ E' a' w', Rel σ E' H' w' → TmRel σ E' T' a' → OkT H'.nx T' → Fr E H w E' H' w' → a'.defers = a.defers → Q x.to a' w') → Code.rounds P c Q m a w

theorem code_wp (htb : tb.Ok σ P) (hF : FunOk σ P F) : ∀ (n : Nat) (c : Code) (T : Tm) (H : Hp) (x : Ex) (T' : Tm) (H' : Hp), codeE tb F n c T H = some (x, T', H') →
    CodeOk σ P c T H x T' H' ∧ ∀ b, c = .loop b → RoundsOk σ P b T H x T' H' := by
  intro n
  induction n with
  | zero => intro c T H x T' H' he; simp [codeE] at he
  | succ n ih =>
    intro c T H x T' H' he
    have loops : ∀ b, c = .loop b → RoundsOk σ P b T H x T' H' := by
      rintro b rfl
      simp only [codeE] at he
      cases hb : codeE tb F n b T H with
      | none => rw [hb] at he; cases he
      | some q =>
        obtain ⟨x1, T1, H1⟩ := q
        rw [hb] at he
        have h1 := (ih _ _ _ _ _ _ hb).1
        cases x1 with
        | normal =>
          dsimp only at he
          obtain ⟨m, hm⟩ := (ih _ _ _ _ _ _ he).2 b rfl
          refine ⟨m + 1, fun Q E a w hR hT hO hQ => ?_⟩
          rw [rounds_succ]
          refine h1 _ E a w hR hT hO fun E1 a1 w1 r1 r2 r3 r4 r5 => ?_
          refine hm Q E1 a1 w1 r1 r2 r3 fun E2 a2 w2 q1 q2 q3 q4 q5 => hQ E2 a2 w2 q1 q2 q3 (r4.trans q4) (q5.trans r5)
        | exit id =>
          cases he
          refine ⟨1, fun Q E a w hR hT hO hQ => ?_⟩
          rw [rounds_succ]
          exact h1 _ E a w hR hT hO hQ
        | ret =>
          cases he
          refine ⟨1, fun Q E a w hR hT hO hQ => ?_⟩
          rw [rounds_succ]
          exact h1 _ E a w hR hT hO hQ
    refine ⟨?_, loops⟩
    intro Q E a w hR hT hO hQ
    cases c with
    | skip =>
      simp only [codeE] at he
      cases he
      exact wp_skip (hQ E a w hR hT hO (Fr.refl _ _ _) rfl)
    | label l =>
      simp only [codeE] at he
      cases he
      exact wp_label (hQ E a w hR hT hO (Fr.refl _ _ _) rfl)
    | exit id =>
      simp only [codeE] at he
      cases he
      exact wp_exit (hQ E a w hR hT hO (Fr.refl _ _ _) rfl)
    | ret =>
      simp only [codeE] at he
      cases he
      exact wp_ret (hQ E a w hR hT hO (Fr.refl _ _ _) rfl)
    | seq x1 y1 =>
      simp only [codeE] at he
      cases hb : codeE tb F n x1 T H with
      | none => rw [hb] at he; cases he
      | some q =>
        obtain ⟨x2, T1, H1⟩ := q
        rw [hb] at he
        have h1 := (ih _ _ _ _ _ _ hb).1
        refine wp_seq ?_
        cases x2 with
        | normal =>
          dsimp only at he
          have h2 := (ih _ _ _ _ _ _ he).1
          refine h1 _ E a w hR hT hO fun E1 a1 w1 r1 r2 r3 r4 r5 => ?_
          exact h2 Q E1 a1 w1 r1 r2 r3 fun E2 a2 w2 q1 q2 q3 q4 q5 => hQ E2 a2 w2 q1 q2 q3 (r4.trans q4) (q5.trans r5)
        | exit id => cases he; exact h1 _ E a w hR hT hO hQ
        | ret => cases he; exact h1 _ E a w hR hT hO hQ
    | cond c x1 y1 =>
      simp only [codeE] at he
      cases hc : evE T c with
      | none => rw [hc] at he; cases he
      | some v =>
        have hv := ev_sound hT hc
        cases v <;> rw [hc] at he <;> first | (cases he; done) | skip
        rename_i t
        rw [den_bool] at hv
        cases t with
        | true =>
          dsimp only at he
          exact wp_cond_true hv ((ih _ _ _ _ _ _ he).1 Q E a w hR hT hO hQ)
        | false =>
          dsimp only at he
          exact wp_cond_false hv ((ih _ _ _ _ _ _ he).1 Q E a w hR hT hO hQ)
    | block id b =>
      simp only [codeE] at he
      cases hb : codeE tb F n b T H with
      | none => rw [hb] at he; cases he
      | some q =>
        obtain ⟨x2, T1, H1⟩ := q
        rw [hb] at he
        have h1 := (ih _ _ _ _ _ _ hb).1
        refine wp_block ?_
        cases x2 with
        | normal => cases he; exact h1 _ E a w hR hT hO hQ
        | ret => cases he; exact h1 _ E a w hR hT hO hQ
        | exit k =>
          dsimp only at he
          cases hk : Nat.beq k id with
          | true =>
            rw [hk] at he
            cases he
            refine h1 _ E a w hR hT hO fun E1 a1 w1 r1 r2 r3 r4 r5 => ?_
            show (if k = id then _ else _)
            rw [if_pos (Nat.eq_of_beq_eq_true hk)]
            exact hQ E1 a1 w1 r1 r2 r3 r4 r5
          | false =>
            rw [hk] at he
            cases he
            refine h1 _ E a w hR hT hO fun E1 a1 w1 r1 r2 r3 r4 r5 => ?_
            show (if k = id then _ else _)
            rw [if_neg (Nat.ne_of_beq_eq_false hk)]
            exact hQ E1 a1 w1 r1 r2 r3 r4 r5
    | loop b =>
      obtain ⟨m, hm⟩ := loops b rfl
      exact wp_loop_rounds m (hm Q E a w hR hT hO hQ)
    | region id ops draw =>
      simp only [codeE] at he
      cases draw with
      | true =>
        dsimp only at he
        cases hd : drawnE tb F ops T H with
        | none => rw [hd] at he; cases he
        | some q =>
          obtain ⟨T1, H1⟩ := q
          rw [hd] at he
          cases he
          exact drawn_wp htb hF hd hR hT hO hQ
      | false =>
        dsimp only at he
        cases hd : seqE tb F ops ops.toList T H with
        | none => rw [hd] at he; cases he
        | some q =>
          obtain ⟨T1, H1⟩ := q
          rw [hd] at he
          cases he
          refine wp_region ?_
          have := seq_wp htb hF (Q := Q) ops.toList 0 T H E a w (by simp) hd hR hT hO hQ
          rw [List.range_eq_range']
          simpa using this
    | _ => simp [codeE] at he

/-! ### functions -/
noncomputable def resE (tb : Tab) (T : Tm) (H : Hp) : List ResultVar → Option (List Value)
  | [] => some []
  | .tmp t :: r => (match resE tb T H r with
    | some vs => some (T.at t :: vs)
    | none => none)
  | .cell a t :: r => (match loadE tb H t (T.at a), resE tb T H r with
    | some v, some vs => some (v :: vs)
    | _, _ => none)
noncomputable def oneE : List Value → Value
  | [v] => v
  | vs => .tuple vs.toArray

noncomputable def resF (tmps : Array Value) : ResultVar → Sem Value
  | .tmp t => pure (tmps.getD t undef)
  | .cell a t => do loadVar t (← asAddr (tmps.getD a undef))
theorem asAddr_ptr (a : Addr) : asAddr (.pointer (some a)) = pure a := rfl
theorem loadE_ptr {H : Hp} {t : TypeId} {x v : Value} (he : loadE tb H t x = some v) : ∃ b off, x = .pointer (some ⟨b, off, none⟩) := by
  unfold loadE at he
  split at he
  · exact ⟨_, _, rfl⟩
  · cases he
theorem res_sound (htb : tb.Ok σ P) {E : Env} {H : Hp} {w : World} {T : Tm} {a : Act} (h : Rel σ E H w) (hT : TmRel σ E T a) : ∀ (rs : List ResultVar) (vs : List Value), resE tb T H rs = some vs →
    (rs.mapM (resF a.tmps)).run P w = .ok (vs.map (den σ E)) w := by
  intro rs
  induction rs with
  | nil => intro vs he; cases he; rfl
  | cons r rs ih =>
    intro vs he
    cases r with
    | tmp t =>
      simp only [resE] at he
      cases hr : resE tb T H rs with
      | none => rw [hr] at he; cases he
      | some vs' =>
        rw [hr] at he
        cases he
        simp only [List.mapM_cons, resF, Sem.run_bind, Sem.run_pure, Result.andThen_ok, ih _ hr, List.map_cons, hT.2 t]
    | cell b t =>
      simp only [resE] at he
      cases hl : loadE tb H t (T.at b) with
      | none => rw [hl] at he; cases he
      | some v =>
        cases hr : resE tb T H rs with
        | none => rw [hl, hr] at he; cases he
        | some vs' =>
          rw [hl, hr] at he
          cases he
          obtain ⟨b', off, hx⟩ := loadE_ptr hl
          have hs := load_sound (P := P) htb h hl
          rw [hx, den_pointer] at hs
          have hs' : (loadVar t ⟨E.blk b', off, none⟩).run P w = .ok (den σ E v) w := by
            simpa [Instr.loadAt, Instr.sureAddr] using hs
          simp only [List.mapM_cons, resF, Sem.run_bind, Sem.run_pure, Result.andThen_ok, hT.2 b, hx, den_pointer, asAddr_ptr, hs', ih _ hr, List.map_cons]

theorem results_sound (htb : tb.Ok σ P) {E : Env} {H : Hp} {w : World} {T : Tm} {a : Act} {fn : Func} (h : Rel σ E H w) (hT : TmRel σ E T a) {vs : List Value} (he : resE tb T H fn.results.toList = some vs) :
    (results fn a.tmps).run P w = .ok (den σ E (oneE vs)) w := by
  have := res_sound (P := P) htb h hT _ _ he
  show (do
    let vs ← fn.results.mapM (resF a.tmps)
    pure (if h : vs.size = 1 then vs[0] else .tuple vs) : Sem Value).run P w = _
  rw [Array.mapM_eq_mapM_toList]
  simp only [Sem.run_bind, Sem.run_map, this, Result.andThen_ok, Sem.run_pure]
  congr 1
  match vs with
  | [] => simp [oneE, den_tuple]
  | [v] => simp [oneE]
  | v :: u :: r => simp [oneE, den_tuple]

noncomputable def argsE : List Value → Nat → Frm → Option Frm
  | [], _, t => some t
  | v :: vs, i, t => (match frPut t i v with
    | some t' => argsE vs (i + 1) t'
    | none => none)
theorem argsE_get : ∀ (vs : List Value) (i : Nat) (t t' : Frm), argsE vs i t = some t' → ∀ k, frGet t' k = if k < i then frGet t k else if k < i + vs.length then (vs[k - i]?).getD undef else frGet t k := by
  intro vs
  induction vs with
  | nil =>
    intro i t t' h k
    cases h
    by_cases e : k < i
    · rw [if_pos e]
    · rw [if_neg e, if_neg (by simpa using e)]
  | cons v vs ih =>
    intro i t t' h k
    simp only [argsE] at h
    cases hp : frPut t i v with
    | none => rw [hp] at h; cases h
    | some t1 =>
      rw [hp] at h
      rw [ih _ _ _ h, frGet_put hp]
      simp only [List.length_cons]
      by_cases e1 : k < i
      · rw [if_pos (by omega), if_neg (by omega), if_pos e1]
      · by_cases e2 : k = i
        · subst e2
          rw [if_pos (by omega), if_pos rfl, if_neg (by omega), if_pos (by omega)]
          simp
        · rw [if_neg (by omega), if_neg e2, if_neg e1]
          by_cases e3 : k < i + 1 + vs.length
          · rw [if_pos e3, if_pos (by omega)]
            rw [show k - i = k - (i + 1) + 1 by omega, List.getElem?_cons_succ]
          · rw [if_neg e3, if_neg (by omega)]

noncomputable def ctrE (f : FuncId) (args : List Value) : List Ctr → Option Value
  | [] => none
  | c :: cs => bif Nat.beq c.f f && vEqL 60 c.args args then some c.v else ctrE f args cs
theorem ctrE_mem {f : FuncId} {args : List Value} {v : Value} : ∀ (l : List Ctr), ctrE f args l = some v → (⟨f, args, v⟩ : Ctr) ∈ l := by
  intro l
  induction l with
  | nil => intro h; cases h
  | cons c l ih =>
    intro h
    simp only [ctrE] at h
    cases hc : (Nat.beq c.f f && vEqL 60 c.args args) with
    | false => rw [hc] at h; exact List.mem_cons_of_mem _ (ih h)
    | true =>
      rw [hc] at h
      simp only [Bool.and_eq_true, Nat.beq_eq] at hc
      have e1 := hc.1
      have e2 := (vEq_both 60).2 _ _ hc.2
      obtain ⟨f', args', v'⟩ := c
      dsimp only at e1 e2
      cases h
      subst e1 e2
      exact List.mem_cons_self
theorem Rel.below {E : Env} {H : Hp} {w w' : World} (h : Rel σ E H w) (hb : RowKit.Below w.heap.size w w') : Rel σ E H w' :=
  ⟨fun b o hg => by rw [hb.block _ (h.heap_lt hg)]; exact h.blk b o hg, h.inj, h.lt, h.ok, fun p hp => ⟨by rw [hb.block _ (Array.getElem?_eq_some_iff.1 (h.ext p hp).1).1]; exact (h.ext p hp).1, (h.ext p hp).2⟩⟩
theorem Fr.below (E : Env) (H : Hp) {w w' : World} (hb : RowKit.Below w.heap.size w w') : Fr E H w E H w' :=
  ⟨hb.os, hb.tape, hb.output, hb.size, fun g hg _ => hb.block g hg, fun b h => .inl ⟨b, h, rfl⟩, Env.Ext.refl _ _, Nat.le_refl _⟩
theorem flat_map {E : Env} {args : List Value} (h : args.all flatV = true) : args.map (den σ E) = args.map (den σ E00) :=
  List.map_congr_left fun x hx => flat_den (List.all_eq_true.1 h x hx) E

noncomputable def funE (tb : Tab) : Nat → Fun
  | 0 => fun _ _ _ => none
  | n + 1 => fun f args H => match ctrE f args tb.ctr with
   | some v => bif okV deep H.nx v then some (v, H) else none
   | none => match tb.fn.get f with
    | none => none
    | some fn => match fn.body with
      | none => none
      | some c => match argsE args 0 fr0 with
        | none => none
        | some tr => match codeE tb (funE tb n) n c ⟨tr, args.length + (fn.ntmps - args.length)⟩ H with
          | some (.exit _, _, _) => none
          | some (_, T, H') => (match resE tb T H' fn.results.toList with
            | some vs => bif okV deep H'.nx (oneE vs) then some (oneE vs, H') else none
            | none => none)
          | none => none

theorem fun_ok (htb : tb.Ok σ P) : ∀ n, FunOk σ P (funE tb n) := by
  intro n
  induction n with
  | zero => intro f args H v H' he; cases he
  | succ n ih =>
    intro f args H v H' he
    simp only [funE] at he
    cases hct : ctrE f args tb.ctr with
    | some u =>
      rw [hct] at he
      dsimp only at he
      cases hk : okV deep H.nx u with
      | false => rw [hk] at he; cases he
      | true =>
        rw [hk] at he
        cases he
        refine ⟨hk, fun E w hR _ => ?_⟩
        obtain ⟨c1, c2, c3⟩ := htb.ctr _ (ctrE_mem _ hct)
        dsimp only at c1 c2 c3
        rw [flat_map c2]
        refine (c3 w).mono ?_
        rintro e w' ⟨rfl, hb⟩
        exact ⟨E, by rw [flat_den c1 E], hR.below hb, Fr.below E _ hb⟩
    | none =>
    rw [hct] at he
    dsimp only at he
    cases hf : tb.fn.get f with
    | none => rw [hf] at he; cases he
    | some fn =>
      rw [hf] at he
      dsimp only at he
      cases hb : fn.body with
      | none => rw [hb] at he; cases he
      | some c =>
        rw [hb] at he
        dsimp only at he
        cases ha : argsE args 0 fr0 with
        | none => rw [ha] at he; cases he
        | some tr =>
          rw [ha] at he
          dsimp only at he
          cases hc : codeE tb (funE tb n) n c ⟨tr, args.length + (fn.ntmps - args.length)⟩ H with
          | none => rw [hc] at he; cases he
          | some q =>
            obtain ⟨x, T, H1⟩ := q
            rw [hc] at he
            have hx : ∃ vs, resE tb T H1 fn.results.toList = some vs ∧ okV deep H1.nx (oneE vs) = true ∧ v = oneE vs ∧ H' = H1 ∧ (x = .normal ∨ x = .ret) := by
              have key : ∀ {o : Option (List Value)}, (match o with
                  | some vs => bif okV deep H1.nx (oneE vs) then some (oneE vs, H1) else none
                  | none => none) = some (v, H') → ∃ vs, o = some vs ∧ okV deep H1.nx (oneE vs) = true ∧ v = oneE vs ∧ H' = H1 := by
                intro o h
                cases o with
                | none => cases h
                | some vs =>
                  dsimp only at h
                  cases hk : okV deep H1.nx (oneE vs) with
                  | false => rw [hk] at h; cases h
                  | true => rw [hk] at h; cases h; exact ⟨vs, rfl, hk, rfl, rfl⟩
              cases x with
              | exit id => cases he
              | normal => obtain ⟨vs, a1, a2, a3, a4⟩ := key he; exact ⟨vs, a1, a2, a3, a4, .inl rfl⟩
              | ret => obtain ⟨vs, a1, a2, a3, a4⟩ := key he; exact ⟨vs, a1, a2, a3, a4, .inr rfl⟩
            obtain ⟨vs, hres, hok, rfl, rfl, hx⟩ := hx
            refine ⟨hok, fun E w hR hargs => ?_⟩
            have hcode := (code_wp htb ih n c _ H x T H' hc).1
            refine calls_of_wp (htb.fn f fn hf) hb ?_
            have hget := argsE_get args 0 fr0 tr ha
            have hat : ∀ k, (Tm.mk tr (args.length + (fn.ntmps - args.length))).at k = (args[k]?).getD undef := by
              intro k
              unfold Tm.at
              rw [hget k, if_neg (by omega)]
              simp only [Nat.zero_add, Nat.sub_zero]
              by_cases e : k < args.length
              · rw [if_pos e]
              · rw [if_neg e, List.getElem?_eq_none (by omega), frGet_fr0]
                rfl
            refine hcode _ E _ w hR ⟨by simp, fun k => ?_⟩ (fun k => ?_) ?_
            · rw [hat]
              by_cases e : k < args.length
              · simp [Array.getElem?_append, e]
              · rw [List.getElem?_eq_none (by omega)]
                simp only [Option.getD_none, den_undef]
                by_cases e2 : k < args.length + (fn.ntmps - args.length)
                · simp [Array.getElem?_append, e, Array.getElem?_replicate]
                  split <;> rfl
                · simp [Array.getElem?_append, e, Array.getElem?_replicate]
                  split <;> rfl
            · rw [hat]
              cases hk : args[k]? with
              | none => exact okV_undef _
              | some u => exact hargs u (List.mem_of_getElem? hk)
            · intro E' a' w' r1 r2 r3 r4 r5
              have hr := results_sound (P := P) (fn := fn) htb r1 r2 hres
              rcases hx with rfl | rfl
              · exact ⟨r5, _, hr, E', rfl, r1, r4⟩
              · exact ⟨r5, _, hr, E', rfl, r1, r4⟩

theorem flat_ok {v : Value} (h : flatV v = true) : okV deep 1 v = true := by
  cases v <;> first
    | (cases h; done)
    | rfl
    | (rename_i k b; cases k <;> first | rfl | cases h)
/-- A call of a function of numbers, truths and texts: what the kernel works out holds of every memory. -/
theorem calls_flat (htb : tb.Ok σ P) {n : Nat} {f : FuncId} {args : List Value} {v : Value} {H' : Hp} (he : funE tb n f args ⟨.nil, 1⟩ = some (v, H')) (hargs : args.all (okV deep 1) = true) (hv : flatV v = true) (w : World) (hx : ∀ p ∈ σ.x, w.heap[p.1]? = some p.2) :
    Calls P f (args.map (den σ E00)).toArray w fun e w' => e = .returned (den σ E00 v) ∧ RowKit.Below w.heap.size w w' := by
  have h := (fun_ok htb n f args _ _ _ he).2 E00 w ⟨fun b o hb => (by simp [Hp.get, Tr.get_nil] at hb), fun b b' hb => (by simp [Hp.get, Tr.get_nil] at hb), fun b o hb => (by simp [Hp.get, Tr.get_nil] at hb), fun b o hb => (by simp [Hp.get, Tr.get_nil] at hb), fun p hp => ⟨hx p hp, fun b hb => (by simp [Hp.get, Tr.get_nil] at hb)⟩⟩ (fun x hx => List.all_eq_true.1 hargs x hx)
  refine h.mono ?_
  rintro e w' ⟨E', rfl, _, h2⟩
  refine ⟨by rw [flat_den hv], h2.os, h2.tape, h2.output, h2.size, fun k hk => h2.keep k hk ?_⟩
  intro b hb
  simp [Hp.get, Tr.get_nil] at hb
noncomputable def isV (v : Value) : Option (Value × Hp) → Bool
  | some (u, _) => vEq 60 u v
  | none => false
theorem isV_some {v : Value} {o : Option (Value × Hp)} (h : isV v o = true) : ∃ H', o = some (v, H') := by
  cases o with
  | none => cases h
  | some p =>
    obtain ⟨u, H'⟩ := p
    exact ⟨H', by rw [(vEq_both 60).1 _ _ h]⟩
/-- the same, of a check that the kernel works out -/
theorem calls_isV (htb : tb.Ok σ P) {n : Nat} {f : FuncId} {args : List Value} {v : Value} (he : isV v (funE tb n f args ⟨.nil, 1⟩) = true) (hargs : args.all (okV deep 1) = true) (hv : flatV v = true) (w : World) (hx : ∀ p ∈ σ.x, w.heap[p.1]? = some p.2) :
    Calls P f (args.map (den σ E00)).toArray w fun e w' => e = .returned (den σ E00 v) ∧ RowKit.Below w.heap.size w w' := by
  obtain ⟨H', h⟩ := isV_some he
  exact calls_flat htb h hargs hv w hx
end
end Go.Proofs.Ytnjfbcoddbeggaa.Sx
