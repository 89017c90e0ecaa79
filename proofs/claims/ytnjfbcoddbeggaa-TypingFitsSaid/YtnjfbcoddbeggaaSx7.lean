/-
  Runs of closed code: values put together; all operations that leave memory alone.
-/
import Derived.Test.YtnjfbcoddbeggaaSx6
namespace Go.Proofs.Ytnjfbcoddbeggaa.Sx
open Go
variable {σ : Sg}

section
variable {P : Program} {tb : Tab} {E : Env} {H : Hp} {w : World}

/-! ### build -/
theorem fold_den (E : Env) (off : Nat) : ∀ (l : List (Value × Nat)) (cs : Array Value),
    (l.map fun p => (den σ E p.1, p.2)).foldl (fun cs (c, j) => cs.setIfInBounds (off + j) c) (cs.map (den σ E)) = (l.foldl (fun cs (c, j) => cs.setIfInBounds (off + j) c) cs).map (den σ E) := by
  intro l
  induction l with
  | nil => intro cs; rfl
  | cons p l ih =>
    intro cs
    simp only [List.map_cons, List.foldl_cons]
    rw [← ih, ← Array.map_setIfInBounds]
theorem fill_den (E : Env) (place : Nat → Option (Nat × Nat)) : ∀ (l : List (Nat × Value)) (cs : Array Value),
    Instr.fill place (cs.map (den σ E)) (l.map fun p => (p.1, den σ E p.2)) = (Instr.fill place cs l).map (Array.map (den σ E)) := by
  intro l
  induction l with
  | nil => intro cs; rfl
  | cons p l ih =>
    intro cs
    obtain ⟨i, v⟩ := p
    simp only [List.map_cons, Instr.fill]
    cases hp : place i with
    | none => rfl
    | some q =>
      obtain ⟨off, size⟩ := q
      simp only [den_cells, Array.size_map]
      split
      · rfl
      · rw [← ih]
        congr 1
        have := fold_den (σ := σ) E off v.cells.zipIdx.toList cs
        rw [← Array.foldl_toList, ← Array.foldl_toList, ← this]
        congr 1
        simp [Array.zipIdx_map]

noncomputable def placesE (tb : Tab) : List Field → Option (List (Nat × Nat))
  | [] => some []
  | f :: fs => match tb.ty.get f.type, placesE tb fs with
    | some y, some r => some ((f.offset, y.info.size) :: r)
    | _, _ => none
theorem run_placesE (htb : tb.Ok σ P) (w : World) : ∀ (fs : List Field) (r : List (Nat × Nat)), placesE tb fs = some r → (fs.mapM fun f => Prod.mk f.offset <$> sizeOf f.type).run P w = .ok r w := by
  intro fs
  induction fs with
  | nil => intro r h; cases h; rfl
  | cons f fs ih =>
    intro r h
    simp only [placesE] at h
    cases hy : tb.ty.get f.type with
    | none => rw [hy] at h; cases h
    | some y =>
      cases hp : placesE tb fs with
      | none => rw [hy, hp] at h; cases h
      | some r' =>
        rw [hy, hp] at h
        cases h
        simp [List.mapM_cons, htb.size hy, ih r' hp]
noncomputable def buildE (tb : Tab) (t : TypeId) (parts : List (Nat × Value)) : Option Value :=
  match tb.ty.get t, zeroE tb t with
  | some y, some z => (match y.desc with
    | .struct fs => (match placesE tb fs.toList with
      | some ps => (match Instr.fill (fun i => ps[i]?) z.cells parts with
        | some cs => some (.agg cs)
        | none => none)
      | none => none)
    | .array _ e => (match tb.ty.get e with
      | some ye => (match Instr.fill (fun i => some (i * ye.info.size, ye.info.size)) z.cells parts with
        | some cs => some (.agg cs)
        | none => none)
      | none => none)
    | _ => none)
  | _, _ => none
theorem build_sound (htb : tb.Ok σ P) {t : TypeId} {parts : List (Nat × Value)} {v : Value} (he : buildE tb t parts = some v) :
    (Instr.build t (parts.map fun p => (p.1, den σ E p.2)).toArray).run P w = .ok (den σ E v) w := by
  unfold buildE at he
  cases hy : tb.ty.get t with
  | none => rw [hy] at he; cases he
  | some y =>
    cases hz : zeroE tb t with
    | none => rw [hy, hz] at he; cases he
    | some z =>
      rw [hy, hz] at he
      dsimp only at he
      obtain ⟨z1, z2, _⟩ := zero_sound htb hz E w
      have zc : z.cells = z.cells.map (den σ E) := by rw [← den_cells, z2]
      have hu := htb.under hy w
      split at he
      · rename_i fs hd
        rw [hd] at hu
        cases hp : placesE tb fs.toList with
        | none => rw [hp] at he; cases he
        | some ps =>
          rw [hp] at he
          dsimp only at he
          cases hf : Instr.fill (fun i => ps[i]?) z.cells parts with
          | none => rw [hf] at he; cases he
          | some cs =>
            rw [hf] at he
            cases he
            have h1 := run_placesE htb w _ _ hp
            have h2 := fill_den (σ := σ) E (fun i => ps[i]?) parts z.cells
            rw [← zc, hf] at h2
            simp only [Instr.build, Sem.run_bind, z1, hu, Result.andThen_ok]
            have h4 : (fun (x : Nat) => ps.toArray[x]?) = fun (i : Nat) => ps[i]? := by funext i; simp
            simp [Array.mapM_eq_mapM_toList, h1, h2, den_agg]
      · rename_i n e hd
        rw [hd] at hu
        cases hye : tb.ty.get e with
        | none => rw [hye] at he; cases he
        | some ye =>
          rw [hye] at he
          dsimp only at he
          cases hf : Instr.fill (fun i => some (i * ye.info.size, ye.info.size)) z.cells parts with
          | none => rw [hf] at he; cases he
          | some cs =>
            rw [hf] at he
            cases he
            have h2 := fill_den (σ := σ) E (fun i => some (i * ye.info.size, ye.info.size)) parts z.cells
            rw [← zc, hf] at h2
            simp only [Instr.build, Sem.run_bind, z1, hu, Result.andThen_ok, htb.size hye, h2, Option.map_some, Sem.run_pure, den_agg]
      · cases he

/-! ### the rest -/
noncomputable def lenE (tb : Tab) (H : Hp) (t : TypeId) (x : Value) : Option Value :=
  match tb.ty.get t with
  | none => none
  | some y => match y.desc, x with
    | .string, .string s => some (.int .i64 (.ofNat s.data.toList.length))
    | .array n _, _ => some (.int .i64 (.ofNat n))
    | .slice _, .slice _ n _ => some (.int .i64 (.ofNat n))
    | .map _ _, x => (match mapE H x with
      | some es => some (.int .i64 (.ofNat es.length))
      | none => none)
    | _, _ => none
theorem len_sound (htb : tb.Ok σ P) (h : Rel σ E H w) {t rt : TypeId} {ts : Array TypeId} {x v : Value} (hts : ts[0]? = some t) (he : lenE tb H t x = some v) : (Builtin.len_ ts rt #[den σ E x]).run P w = .ok (den σ E v) w := by
  unfold lenE at he
  cases hy : tb.ty.get t with
  | none => rw [hy] at he; cases he
  | some y =>
    rw [hy] at he
    dsimp only at he
    have hu := htb.desc t y hy
    split at he
    · rename_i s hd
      rw [hd] at hu
      cases he
      simp [Builtin.len_, hts, run_underlying hu, den_string, den_int, goInt]
    · rename_i n e hd
      rw [hd] at hu
      cases he
      simp [Builtin.len_, hts, run_underlying hu, den_int, goInt]
    · rename_i e a n c hd
      rw [hd] at hu
      cases he
      cases a <;> simp [Builtin.len_, hts, run_underlying hu, den_snil, den_slice, den_int, goInt]
    · rename_i x' _ _ kt et hd
      rw [hd] at hu
      cases hm : mapE H x' with
      | none => rw [hm] at he; cases he
      | some es =>
        rw [hm] at he
        cases he
        rcases mapE_cases h hm with ⟨e1, e2⟩ | ⟨r, cl, e1, e2⟩
        · subst e2
          simp [Builtin.len_, hts, run_underlying hu, e1, den_int, goInt]
        · simp [Builtin.len_, hts, run_underlying hu, e1, den_int, goInt, run_getMap e2]
    · cases he

noncomputable def mm2 (mx : Bool) (k : IntKind) (x y : Int) : Value := .int k (bif mx then (bif intLtE x y then y else x) else (bif intLtE y x then y else x))
noncomputable def mmoE (mx : Bool) (x y : Value) : List Mmo → Option Value
  | [] => none
  | e :: es => bif (bif mx then e.mx else !e.mx) && (sEq e.x x && sEq e.y y) then some e.v else mmoE mx x y es
theorem mmoE_mem {mx : Bool} {x y v : Value} : ∀ (l : List Mmo), mmoE mx x y l = some v → (⟨mx, x, y, v⟩ : Mmo) ∈ l := by
  intro l
  induction l with
  | nil => intro h; cases h
  | cons e l ih =>
    intro h
    simp only [mmoE] at h
    cases hc : ((bif mx then e.mx else !e.mx) && (sEq e.x x && sEq e.y y)) with
    | false => rw [hc] at h; exact List.mem_cons_of_mem _ (ih h)
    | true =>
      rw [hc] at h
      simp only [Bool.and_eq_true] at hc
      obtain ⟨h1, h2, h3⟩ := hc
      have e2 := sEq_eq h2
      have e3 := sEq_eq h3
      clear h2 h3
      obtain ⟨m, x', y', v'⟩ := e
      dsimp only at h1 e2 e3
      cases h
      subst e2 e3
      cases mx <;> cases m <;> first | (cases h1; done) | exact List.mem_cons_self
noncomputable def mm1 (tb : Tab) (mx : Bool) (x y : Value) : Option Value := match x, y with
  | .int k x, .int _ y => some (mm2 mx k x y)
  | x, y => mmoE mx x y tb.mmo
noncomputable def minmaxE (tb : Tab) (mx : Bool) : Value → List Value → Option Value
  | x, [] => (match x with
    | .int k x => some (.int k x)
    | .float .f64 i => some (.float .f64 i)
    | _ => none)
  | x, y :: r => (match mm1 tb mx x y with
    | some v => minmaxE tb mx v r
    | none => none)
theorem mm1_max (htb : tb.Ok σ P) {x y v : Value} (h : mm1 tb true x y = some v) : (Builtin.max2 (den σ E x) (den σ E y)).run P w = .ok (den σ E v) w := by
  unfold mm1 at h
  split at h
  · rename_i k a k' b
    cases h
    have e : mm2 true k a b = .int k (if b > a then b else a) := by
      simp only [mm2, cond_true, intLtE_eq]
      by_cases hl : a < b <;> simp [hl]
    rw [e, den_int, den_int, den_int]
    rfl
  · obtain ⟨hf, a, b, h1, h2, h3⟩ := htb.mmo _ (mmoE_mem _ h)
    dsimp only at hf h1 h2 h3
    rw [h1 E, h2 E, flat_den hf E, h3]
    rfl
theorem mm1_min (htb : tb.Ok σ P) {x y v : Value} (h : mm1 tb false x y = some v) : (Builtin.min2 (den σ E x) (den σ E y)).run P w = .ok (den σ E v) w := by
  unfold mm1 at h
  split at h
  · rename_i k a k' b
    cases h
    have e : mm2 false k a b = .int k (if b < a then b else a) := by
      simp only [mm2, cond_false, intLtE_eq]
      by_cases hl : b < a <;> simp [hl]
    rw [e, den_int, den_int, den_int]
    rfl
  · obtain ⟨hf, a, b, h1, h2, h3⟩ := htb.mmo _ (mmoE_mem _ h)
    dsimp only at hf h1 h2 h3
    rw [h1 E, h2 E, flat_den hf E, h3]
    rfl
theorem max_sound (htb : tb.Ok σ P) : ∀ (r : List Value) (x v : Value), minmaxE tb true x r = some v → ((r.map (den σ E)).foldlM Builtin.max2 (den σ E x)).run P w = .ok (den σ E v) w := by
  intro r
  induction r with
  | nil =>
    intro x v h
    simp only [minmaxE] at h
    split at h <;> first | (cases h; done) | (cases h; rfl)
  | cons y r ih =>
    intro x v h
    simp only [minmaxE] at h
    cases hm : mm1 tb true x y with
    | none => rw [hm] at h; cases h
    | some u =>
      rw [hm] at h
      simp only [List.map_cons, List.foldlM_cons, Sem.run_bind, mm1_max htb hm, Result.andThen_ok]
      exact ih _ _ h
theorem min_sound (htb : tb.Ok σ P) : ∀ (r : List Value) (x v : Value), minmaxE tb false x r = some v → ((r.map (den σ E)).foldlM Builtin.min2 (den σ E x)).run P w = .ok (den σ E v) w := by
  intro r
  induction r with
  | nil =>
    intro x v h
    simp only [minmaxE] at h
    split at h <;> first | (cases h; done) | (cases h; rfl)
  | cons y r ih =>
    intro x v h
    simp only [minmaxE] at h
    cases hm : mm1 tb false x y with
    | none => rw [hm] at h; cases h
    | some u =>
      rw [hm] at h
      simp only [List.map_cons, List.foldlM_cons, Sem.run_bind, mm1_min htb hm, Result.andThen_ok]
      exact ih _ _ h

noncomputable def nilCheckE : Value → Option Value
  | .pointer (some a) => some (.pointer (some a))
  | .func (.func f) a b => some (.func (.func f) a b)
  | .iface t v => some (.iface t v)
  | _ => none
noncomputable def extractE (i : Nat) : Value → Option Value
  | .tuple vs => vs.toList[i]?
  | _ => none
noncomputable def assertE (tb : Tab) (x : Value) (t : TypeId) (ok : Bool) : Option Value :=
  match tb.ty.get t with
  | none => none
  | some y => match y.desc with
    | .interface _ => none
    | _ => match x with
      | .iface u v => (match Nat.beq u t with
        | true => some (bif ok then .tuple #[v, .bool true] else v)
        | false => bif ok then (match zeroE tb t with
          | some z => some (.tuple #[z, .bool false])
          | none => none) else none)
      | .nilIface => bif ok then (match zeroE tb t with
          | some z => some (.tuple #[z, .bool false])
          | none => none) else none
      | _ => none
theorem assert_sound (htb : tb.Ok σ P) {x v : Value} {xt t : TypeId} {ok : Bool} (he : assertE tb x t ok = some v) : (Instr.typeAssert (den σ E x) xt t ok).run P w = .ok (den σ E v) w := by
  unfold assertE at he
  cases hy : tb.ty.get t with
  | none => rw [hy] at he; cases he
  | some y =>
    rw [hy] at he
    dsimp only at he
    have hu := htb.desc t y hy
    have hni : ∀ {r : Option Value}, (match y.desc with | .interface _ => none | _ => r) = some v → r = some v ∧ ∀ ms, y.desc ≠ .interface ms := by
      intro r h
      cases hd : y.desc <;> rw [hd] at h <;> first | exact ⟨h, fun ms e => by cases e⟩ | cases h
    obtain ⟨he, hnn⟩ := hni he
    clear hni
    split at he
    · rename_i u v' _
      cases hb : Nat.beq u t with
      | true =>
        rw [hb] at he
        have hb := Nat.eq_of_beq_eq_true hb
        cases he
        subst hb
        cases hd : y.desc <;> rw [hd] at hu <;> first | exact absurd hd (hnn _) | (cases ok <;> simp [Instr.typeAssert, run_underlying hu, den_iface, den_tuple, den_bool])
      | false =>
        rw [hb] at he
        have hb := Nat.ne_of_beq_eq_false hb
        cases ok with
        | false => cases he
        | true =>
          dsimp only [cond_true] at he
          cases hz : zeroE tb t with
          | none => rw [hz] at he; cases he
          | some z =>
            rw [hz] at he
            cases he
            obtain ⟨z1, z2, _⟩ := zero_sound htb hz E w
            cases hd : y.desc <;> rw [hd] at hu <;> first | exact absurd hd (hnn _) | simp [Instr.typeAssert, run_underlying hu, den_iface, den_tuple, den_bool, hb, z1, z2]
    · cases ok with
      | false => cases he
      | true =>
        dsimp only [cond_true] at he
        cases hz : zeroE tb t with
        | none => rw [hz] at he; cases he
        | some z =>
          rw [hz] at he
          cases he
          obtain ⟨z1, z2, _⟩ := zero_sound htb hz E w
          cases hd : y.desc <;> rw [hd] at hu <;> first | exact absurd hd (hnn _) | simp [Instr.typeAssert, run_underlying hu, den_nilIface, den_tuple, den_bool, z1, z2]
    · cases he
noncomputable def ifaceE (tb : Tab) (t : TypeId) (x : Value) : Option Value :=
  match tb.ty.get t with
  | none => none
  | some y => match y.desc with
    | .interface _ => none
    | _ => some (.iface t x)
theorem iface_sound (htb : tb.Ok σ P) {x v : Value} {t : TypeId} (he : ifaceE tb t x = some v) : (Instr.makeInterface t (den σ E x)).run P w = .ok (den σ E v) w := by
  unfold ifaceE at he
  cases hy : tb.ty.get t with
  | none => rw [hy] at he; cases he
  | some y =>
    rw [hy] at he
    dsimp only at he
    have hu := htb.desc t y hy
    cases hd : y.desc <;> rw [hd] at hu he <;> first | (cases he; done) | (cases he; simp [Instr.makeInterface, run_underlying hu, den_iface])
end
end Go.Proofs.Ytnjfbcoddbeggaa.Sx
