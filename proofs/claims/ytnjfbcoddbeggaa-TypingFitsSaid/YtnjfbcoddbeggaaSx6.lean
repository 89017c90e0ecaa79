/-
  Runs of closed code: maps looked up, values put together; all operations that leave memory alone.
-/
import Derived.Test.YtnjfbcoddbeggaaSx5
namespace Go.Proofs.Ytnjfbcoddbeggaa.Sx
open Go
variable {σ : Sg}

section
variable {P : Program} {tb : Tab} {E : Env} {H : Hp} {w : World}

noncomputable def flatD : TypeDesc → Bool
  | .interface _ => false
  | .array _ _ => false
  | .struct _ => false
  | _ => true
noncomputable def chkE (tb : Tab) (t : TypeId) (v : Value) : Bool :=
  match tb.ty.get t with
  | none => false
  | some y => match flatD y.desc with
    | true => true
    | false => (match y.desc, v with
      | .struct fs, .agg cs => fs.toList.all fun f => (match partE tb f.type cs.toList f.offset, tb.ty.get f.type with
        | some _, some z => flatD z.desc
        | _, _ => false)
      | _, _ => false)
theorem chk_flat (htb : tb.Ok σ P) {e : Bool} {n : Nat} {t : TypeId} {y : Ty} (hy : tb.ty.get t = some y) (hf : flatD y.desc = true) (v : Value) : (Instr.checkKey e (n + 1) t v).run P w = .ok () w := by
  have hu := htb.desc t y hy
  simp only [Instr.checkKey, Sem.run_bind, run_underlying hu, Result.andThen_ok]
  cases hd : y.desc <;> rw [hd] at hf <;> first | (cases hf; done) | (cases v <;> rfl)
theorem chk_sound_n (htb : tb.Ok σ P) {e : Bool} {t : TypeId} {v : Value} (n : Nat) (he : chkE tb t v = true) : (Instr.checkKey e (n + 1 + 1) t (den σ E v)).run P w = .ok () w := by
  unfold chkE at he
  cases hy : tb.ty.get t with
  | none => rw [hy] at he; cases he
  | some y =>
    rw [hy] at he
    dsimp only at he
    cases hf : flatD y.desc with
    | true => exact chk_flat (n := n + 1) htb hy hf _
    | false =>
      rw [hf] at he
      dsimp only at he
      have hu := htb.desc t y hy
      split at he
      · rename_i fs cs hd
        rw [hd] at hu
        rw [Instr.checkKey]
        simp only [ Sem.run_bind, run_underlying hu, Result.andThen_ok, den_agg]
        rw [← Array.forIn_toList]
        have hall := List.all_eq_true.1 he
        clear he hd hu
        generalize fs.toList = l at *
        induction l with
        | nil => simp
        | cons f l ih =>
          have h1 := hall f List.mem_cons_self
          have h2 := ih fun x hx => hall x (List.mem_cons_of_mem _ hx)
          cases hp : partE tb f.type cs.toList f.offset with
          | none => rw [hp] at h1; cases h1
          | some pv =>
            cases hz : tb.ty.get f.type with
            | none => rw [hp, hz] at h1; cases h1
            | some z =>
              rw [hp, hz] at h1
              have hr := run_part htb hp (E := E) w
              have hr' : (part f.type (cs.map (den σ E)) f.offset).run P w = .ok (den σ E pv) w := by rw [← hr]; congr 2; simp [← List.map_toArray]
              have hc := chk_flat (P := P) (w := w) htb hz h1 (e := e) (n := n) (den σ E pv)
              simp only [List.forIn_cons, Sem.run_bind]
              split
              · simp only [Sem.run_bind, hr', Result.andThen_ok, hc, Sem.run_pure]
                exact h2
              · simp only [Result.andThen_ok, Sem.run_pure]
                exact h2
      · cases he

theorem chk_sound (htb : tb.Ok σ P) {e : Bool} {t : TypeId} {v : Value} (he : chkE tb t v = true) : (Instr.checkKey e 10000 t (den σ E v)).run P w = .ok () w := chk_sound_n htb 9998 he

noncomputable def findE (tb : Tab) (kt : TypeId) (k : Value) : List MapEntry → Nat → Option (Option (Nat × Value))
  | [], _ => some none
  | e :: es, i => match eqE tb 20 kt k e.key with
    | some true => some (some (i, e.val))
    | some false => findE tb kt k es (i + 1)
    | none => none
noncomputable def denR (σ : Sg) (E : Env) : Option (Nat × Value) → Option (Nat × Value)
  | some (i, v) => some (i, den σ E v)
  | none => none

theorem same_now {kt : TypeId} {y : Ty} (hy : tb.ty.get kt = some y) {d : Nat} {k x : Value} {b b' : Bool} (h1 : eqE tb d kt k x = some b) (h2 : Instr.sameNow y.desc (den σ E k) (den σ E x) = some b') : b = b' := by
  cases d with
  | zero => simp [eqE] at h1
  | succ d =>
    rw [eqE, hy] at h1
    dsimp only at h1
    split at h1
    · rename_i a c hd
      rw [hd, den_bool, den_bool] at h2
      cases h1
      cases h2
      cases a <;> cases c <;> rfl
    · rename_i _ q a q' c hd
      rw [hd, den_int, den_int] at h2
      cases hk : kindEq q q' with
      | false => rw [hk] at h1; cases h1
      | true =>
        rw [hk] at h1
        cases kindEq_eq hk
        cases h1
        simp only [Instr.sameNow, if_true] at h2
        cases h2
        exact intEqE_eq _ _
    · rename_i a c hd
      rw [hd, den_string, den_string] at h2
      cases h1
      cases h2
      rw [bytesEq_eq, ← beq_toListBytes]
    all_goals first
      | (cases h1; done)
      | (rename_i hd; rw [hd] at h2; simp [Instr.sameNow] at h2)

theorem find_now {kt : TypeId} {y : Ty} (hy : tb.ty.get kt = some y) {k : Value} : ∀ (es : List MapEntry) (i : Nat) (r r'), findE tb kt k es i = some r → Instr.findNow y.desc (den σ E k) (es.map (denE σ E)) i = some r' → r' = denR σ E r := by
  intro es
  induction es with
  | nil => intro i r r' h1 h2; cases h1; cases h2; rfl
  | cons e es ih =>
    intro i r r' h1 h2
    simp only [findE] at h1
    simp only [List.map_cons, Instr.findNow] at h2
    cases hq : eqE tb 20 kt k e.key with
    | none => rw [hq] at h1; cases h1
    | some b =>
      rw [hq] at h1
      cases hs : Instr.sameNow y.desc (den σ E k) (denE σ E e).key with
      | none => rw [hs] at h2; cases h2
      | some b' =>
        rw [hs] at h2
        have := same_now hy hq hs
        subst this
        cases b with
        | true => cases h1; cases h2; rfl
        | false => exact ih _ _ _ h1 h2
theorem find_asking (htb : tb.Ok σ P) {kt : TypeId} {k : Value} : ∀ (es : List MapEntry) (i : Nat) (r), findE tb kt k es i = some r → (Instr.findAsking kt (den σ E k) (es.map (denE σ E)) i).run P w = .ok (denR σ E r) w := by
  intro es
  induction es with
  | nil => intro i r h1; cases h1; rfl
  | cons e es ih =>
    intro i r h1
    simp only [findE] at h1
    cases hq : eqE tb 20 kt k e.key with
    | none => rw [hq] at h1; cases h1
    | some b =>
      rw [hq] at h1
      have := (eqE_sound htb E 20).1 _ _ _ _ hq 10000 (by decide) w
      simp only [List.map_cons, Instr.findAsking, Op.equal, Op.maxDepth, denE, Sem.run_bind, this, Result.andThen_ok]
      cases b with
      | true => cases h1; rfl
      | false => simp only [Bool.false_eq_true, if_false]; exact ih _ _ h1
theorem find_sound (htb : tb.Ok σ P) {kt : TypeId} {y : Ty} (hy : tb.ty.get kt = some y) {k : Value} {es : List MapEntry} {r : Option (Nat × Value)} (h : findE tb kt k es 0 = some r) :
    (Instr.findKey kt (den σ E k) (es.map (denE σ E))).run P w = .ok (denR σ E r) w := by
  simp only [Instr.findKey, Sem.run_bind, htb.under hy, Result.andThen_ok]
  cases hn : Instr.findNow y.desc (den σ E k) (es.map (denE σ E)) 0 with
  | some r' => rw [find_now hy es 0 r r' h hn]; rfl
  | none => exact find_asking htb es 0 r h

noncomputable def zeroE (tb : Tab) (t : TypeId) : Option Value := match tb.ty.get t with
  | some y => (match y.info.zero with
    | some z => bif okV deep 0 z then some z else none
    | none => none)
  | none => none
theorem zero_sound (htb : tb.Ok σ P) {t : TypeId} {z : Value} (h : zeroE tb t = some z) (E : Env) (w : World) : (zeroValue t).run P w = .ok z w ∧ den σ E z = z ∧ okV deep 0 z = true := by
  unfold zeroE at h
  cases hy : tb.ty.get t with
  | none => rw [hy] at h; cases h
  | some y =>
    rw [hy] at h
    dsimp only at h
    cases hz : y.info.zero with
    | none => rw [hz] at h; cases h
    | some z' =>
      rw [hz] at h
      dsimp only at h
      cases ho : okV deep 0 z' with
      | false => rw [ho] at h; cases h
      | true =>
        rw [ho] at h
        cases h
        exact ⟨htb.zero hy hz w, den_plain E deep _ ho, ho⟩

noncomputable def mapE (H : Hp) : Value → Option (List MapEntry)
  | .map none => some []
  | .map (some r) => (match H.get r with
    | some (.map es _) => some es
    | _ => none)
  | _ => none
noncomputable def lookupE (tb : Tab) (H : Hp) (t : TypeId) (ok : Bool) (x k : Value) : Option Value :=
  match tb.ty.get t, mapE H x with
  | some y, some es => (match y.desc with
    | .map kt et => bif chkE tb kt k then
        (match findE tb kt k es 0 with
        | some (some (_, v)) => some (bif ok then .tuple #[v, .bool true] else v)
        | some none => (match zeroE tb et with
          | some z => some (bif ok then .tuple #[z, .bool false] else z)
          | none => none)
        | none => none) else none
    | _ => none)
  | _, _ => none

theorem run_getMap {r : Nat} {es : Array MapEntry} {cl : Nat} (hb : w.heap[r]? = some (.map es cl)) : (getObj r).run P w = .ok (.map es cl) w := by
  simp [getObj, Sem.run, hb]
theorem mapE_cases (h : Rel σ E H w) {x : Value} {es : List MapEntry} (hm : mapE H x = some es) : (den σ E x = .map none ∧ es = []) ∨ ∃ r cl, den σ E x = .map (some r) ∧ w.heap[r]? = some (.map (es.map (denE σ E)).toArray cl) := by
  unfold mapE at hm
  split at hm
  · cases hm; exact .inl ⟨den_mnil E, rfl⟩
  · rename_i r
    split at hm
    · rename_i es' cl hg
      cases hm
      exact .inr ⟨_, cl, den_map E r, h.blk r _ hg⟩
    · cases hm
  · cases hm
theorem lookup_sound (htb : tb.Ok σ P) (h : Rel σ E H w) {t : TypeId} {ok : Bool} {x k v : Value} (he : lookupE tb H t ok x k = some v) : (Instr.lookup t (den σ E x) (den σ E k) ok).run P w = .ok (den σ E v) w := by
  unfold lookupE at he
  cases hy : tb.ty.get t with
  | none => rw [hy] at he; cases he
  | some y =>
    cases hm : mapE H x with
    | none => rw [hy, hm] at he; cases he
    | some es =>
      rw [hy, hm] at he
      dsimp only at he
      have hu := htb.desc t y hy
      split at he
      · rename_i kt et hd
        rw [hd] at hu
        cases hc : chkE tb kt k with
        | false => rw [hc] at he; cases he
        | true =>
          rw [hc] at he
          dsimp only [cond_true] at he
          have hkt : ∃ yk, tb.ty.get kt = some yk := by
            unfold chkE at hc
            cases hk : tb.ty.get kt with
            | none => rw [hk] at hc; cases hc
            | some yk => exact ⟨yk, rfl⟩
          obtain ⟨yk, hyk⟩ := hkt
          have hck := fun e => chk_sound (P := P) (E := E) (w := w) (e := e) htb hc
          have key : (Instr.lookup t (den σ E x) (den σ E k) ok).run P w = ((Instr.findKey kt (den σ E k) (es.map (denE σ E))).run P w).andThen fun a w' => (do
              let (v, ok') ← match a with
                | some (_, v) => pure (v, true)
                | none => pure (← zeroValue et, false)
              pure (if ok then .tuple #[v, .bool ok'] else v) : Sem Value).run P w' := by
            rcases mapE_cases h hm with ⟨e1, e2⟩ | ⟨r, cl, e1, e2⟩
            · subst e2
              simp only [Instr.lookup, Sem.run_bind, run_underlying hu, Result.andThen_ok, e1, Sem.run_pure, hck]
              rfl
            · simp only [Instr.lookup, Sem.run_bind, run_underlying hu, Result.andThen_ok, e1, run_getMap e2, Sem.run_pure, hck]
              rfl
          rw [key]
          cases hfe : findE tb kt k es 0 with
          | none => rw [hfe] at he; cases he
          | some r =>
            rw [hfe] at he
            have hfs := find_sound (P := P) (E := E) (w := w) htb hyk hfe
            simp only [Result.andThen_ok, hfs]
            cases r with
            | some iv =>
              obtain ⟨i, u⟩ := iv
              cases he
              simp only [denR, Sem.run_pure, Sem.run_bind, Result.andThen_ok]
              cases ok <;> simp [den_tuple, den_bool]
            | none =>
              dsimp only at he
              cases hz : zeroE tb et with
              | none => rw [hz] at he; cases he
              | some z =>
                rw [hz] at he
                cases he
                obtain ⟨z1, z2, _⟩ := zero_sound htb hz E w
                simp only [denR, Sem.run_bind, z1, Sem.run_pure, Result.andThen_ok]
                cases ok <;> simp [den_tuple, den_bool, z2]
      · cases he
end
end Go.Proofs.Ytnjfbcoddbeggaa.Sx
