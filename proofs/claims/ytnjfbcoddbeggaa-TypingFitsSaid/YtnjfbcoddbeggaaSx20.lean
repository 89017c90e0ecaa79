/-
  The runner once more, its program read once: what an operation, a region, a body does is told by what the kernel keeps for the next time; it comes to the same.
-/
import Derived.Test.YtnjfbcoddbeggaaSx19
namespace Go.Proofs.Ytnjfbcoddbeggaa.Sx
variable {σ : Sg} {P : Program} {tb : Tab}

noncomputable def orE {α : Type} (a b : Option α) : Option α := match a with
  | some r => some r
  | none => b
theorem hint_eq {α : Type} {a b : Option α} (h : ∀ r, a = some r → b = some r) : orE a b = b := by
  cases a with
  | none => rfl
  | some r => exact (h r rfl).symm

/-! ### Operands -/
inductive EV where
  | no
  | mk (f : Tm → List Value)
noncomputable def evC : List Operand → EV
  | [] => .mk fun _ => []
  | x :: xs => match evC xs with
    | .no => .no
    | .mk g => match x with
      | .tmp t => .mk fun T => T.at t :: g T
      | .const v => (match okV deep 0 v with
        | true => .mk fun T => v :: g T
        | false => .no)
      | .global _ => .no
      | .func f => .mk fun T => .func (.func f) #[] #[] :: g T
theorem evC_eq (T : Tm) : ∀ xs, evL T xs = (match evC xs with | .no => none | .mk f => some (f T))
  | [] => rfl
  | x :: xs => by
    have ih := evC_eq T xs
    cases hx : evC xs with
    | no =>
      rw [hx] at ih
      rw [evL, evC, hx, ih]
      cases evE T x <;> rfl
    | mk g =>
      rw [hx] at ih
      rw [evL, evC, hx, ih]
      cases x with
      | tmp t => rfl
      | global g => rfl
      | func f => rfl
      | const v =>
        cases hk : okV deep 0 v <;> simp [evE, hk]

/-! ### Operations -/
inductive CO where
  | mk (f : List Value → Hp → Option (K × Value × Hp))
noncomputable def CO.run (c : CO) : List Value → Hp → Option (K × Value × Hp) := CO.rec (motive := fun _ => List Value → Hp → Option (K × Value × Hp)) (fun f => f) c

inductive CB where
  | no
  | mk (f : IntKind → Int → Int → Value)
noncomputable def binC : BinOp → CB
  | .add => .mk fun k a b => .int k (wrapE k (a + b))
  | .sub => .mk fun k a b => .int k (wrapE k (a - b))
  | .eql => .mk fun _ a b => .bool (intEqE a b)
  | .neq => .mk fun _ a b => .bool (!intEqE a b)
  | .lss => .mk fun _ a b => .bool (intLtE a b)
  | .leq => .mk fun _ a b => .bool (!intLtE b a)
  | .gtr => .mk fun _ a b => .bool (intLtE b a)
  | .geq => .mk fun _ a b => .bool (!intLtE a b)
  | _ => .no
theorem binC_eq {op : BinOp} {f : IntKind → Int → Int → Value} (h : binC op = .mk f) {tb : Tab} {t : TypeId} {k k' : IntKind} {a b : Int} (hk : kindEq k k' = true) : binE0 tb op t (.int k a) (.int k' b) = some (f k a b) := by
  cases op <;> cases h <;> simp [binE0, hk]
noncomputable def pureK (H : Hp) : Option Value → Option (K × Value × Hp)
  | some v => some (.pure, v, H)
  | none => none
theorem opE_mkp {F : Fun} {H : Hp} {op : Op} {vs : List Value} {v : Value} (h : pureE tb H op vs = some v) : opE tb F H op vs = some (.pure, v, H) := by
  unfold opE; rw [h]
theorem pureK_some {H : Hp} {o : Option Value} {r : K × Value × Hp} (h : pureK H o = some r) : ∃ v, o = some v ∧ r = (.pure, v, H) := by
  cases o with
  | none => cases h
  | some v => cases h; exact ⟨v, rfl, rfl⟩
theorem extV_none {op : Op} (h : tagOf op = none) (vs : List Value) : extV tb op vs = none := by
  unfold extV
  split
  · rfl
  · rw [h]
theorem pureE_none {op : Op} {H : Hp} {vs : List Value} (h1 : pure0 tb H op vs = none) (h2 : tagOf op = none) : pureE tb H op vs = none := by
  unfold pureE
  rw [h1]
  exact extV_none h2 vs
theorem pureE_of0 {op : Op} {H : Hp} {vs : List Value} {v : Value} (h : pure0 tb H op vs = some v) : pureE tb H op vs = some v := by
  unfold pureE
  rw [h]
noncomputable def allocK (H : Hp) (o : Option (AO × (Nat → Value))) : Option (K × Value × Hp) := match o with
  | some (ob, mk) => bif okO H.nx ob then (match H.add ob with
      | some H' => some (.alloc, mk H.nx, H')
      | none => none) else none
  | none => none
noncomputable def heapK (o : Option (Option Value × Hp)) : Option (K × Value × Hp) := match o with
  | some (ov, H') => some (.chain, ov.getD undef, H')
  | none => none
noncomputable def heap1 (o : Option Hp) : Option (K × Value × Hp) := match o with
  | some H' => some (.chain, undef, H')
  | none => none
noncomputable def heap2 (o : Option (Value × Hp)) : Option (K × Value × Hp) := match o with
  | some (v, H') => some (.chain, v, H')
  | none => none
noncomputable def callK (tb : Tab) (F : Fun) (vs : List Value) (H : Hp) : Option (K × Value × Hp) := match vs with
  | .func (.func f) first captured :: args => (match tb.fn.get f with
    | some _ => heap2 (F f (first.toList ++ args ++ captured.toList) H)
    | none => none)
  | _ => none
theorem opE_of_pure {F : Fun} {H : Hp} {op : Op} {vs : List Value} (h1 : allocE tb op vs = none) (h2 : heapE tb H op vs = none) (h3 : callE op vs = none) : opE tb F H op vs = pureK H (pureE tb H op vs) := by
  unfold opE
  rw [h1, h2, h3]
  cases pureE tb H op vs <;> rfl
theorem opE_of_alloc {F : Fun} {H : Hp} {op : Op} {vs : List Value} (h1 : pureE tb H op vs = none) (h2 : heapE tb H op vs = none) (h3 : callE op vs = none) : opE tb F H op vs = allocK H (allocE tb op vs) := by
  unfold opE
  rw [h1, h2, h3]
  cases allocE tb op vs with
  | none => rfl
  | some q => rfl
theorem opE_of_heap {F : Fun} {H : Hp} {op : Op} {vs : List Value} (h1 : pureE tb H op vs = none) (h2 : allocE tb op vs = none) (h3 : callE op vs = none) : opE tb F H op vs = heapK (heapE tb H op vs) := by
  unfold opE
  rw [h1, h2, h3]
  cases heapE tb H op vs with
  | none => rfl
  | some q => rfl
noncomputable def is1 (vs : List Value) (f : Value → Option Value) : Option Value := match vs with
  | [a] => f a
  | _ => none
noncomputable def is2 (vs : List Value) (f : Value → Value → Option Value) : Option Value := match vs with
  | [a, b] => f a b
  | _ => none
noncomputable def extK (tb : Tab) (op : Op) (vs : List Value) (H : Hp) (o : Option Value) : Option (K × Value × Hp) := match o with
  | some v => some (.pure, v, H)
  | none => pureK H (extV tb op vs)
theorem extK_eq {op : Op} {vs : List Value} {H : Hp} {o : Option Value} (h : pure0 tb H op vs = o) : extK tb op vs H o = pureK H (pureE tb H op vs) := by
  unfold extK pureE
  rw [h]
  cases o <;> rfl
/-- each operation by itself -/
noncomputable def opX (tb : Tab) (F : Fun) (op : Op) : CO := match op with
  | .move u1 => .mk fun vs H => extK tb (.move u1) vs H (is1 vs some)
  | .assign u1 => .mk fun vs H => extK tb (.assign u1) vs H (is1 vs some)
  | .load t u1 => .mk fun vs H => extK tb (.load t u1) vs H (is1 vs (loadE tb H t))
  | .nilCheck u1 => .mk fun vs H => extK tb (.nilCheck u1) vs H (is1 vs nilCheckE)
  | .binOp op t x y u1 => .mk fun vs H => extK tb (.binOp op t x y u1) vs H (is2 vs (nilE tb op t x y))
  | .unOp op u1 u2 => .mk fun vs H => extK tb (.unOp op u1 u2) vs H (is1 vs (unE op))
  | .convert s d u1 => .mk fun vs H => extK tb (.convert s d u1) vs H (is1 vs (convE tb H s d))
  | .makeInterface t u1 => .mk fun vs H => extK tb (.makeInterface t u1) vs H (is1 vs (ifaceE tb t))
  | .fieldAddr s u1 f => .mk fun vs H => extK tb (.fieldAddr s u1 f) vs H (is1 vs (fieldAddrE tb s f))
  | .field t u1 f => .mk fun vs H => extK tb (.field t u1 f) vs H (is1 vs (fieldE tb t f))
  | .indexAddr t u1 u2 => .mk fun vs H => extK tb (.indexAddr t u1 u2) vs H (is2 vs (indexAddrE tb t))
  | .index t u1 u2 => .mk fun vs H => extK tb (.index t u1 u2) vs H (is2 vs (indexE tb t))
  | .lookup t u1 u2 ok => .mk fun vs H => extK tb (.lookup t u1 u2 ok) vs H (is2 vs (lookupE tb H t ok))
  | .build t parts => .mk fun vs H => extK tb (.build t parts) vs H (buildE tb t ((parts.toList.map (·.1)).zip vs))
  | .extract u1 i => .mk fun vs H => extK tb (.extract u1 i) vs H (is1 vs (extractE i))
  | .alloc e => .mk fun vs H => allocK H (allocE tb (.alloc e) vs)
  | .box e _x => .mk fun vs H => allocK H (match vs with
      | [v] => some (.cells v.cells.toList none e, fun n => .pointer (some ⟨n, 0, none⟩))
      | _ => none)
  | .store t _ _ => .mk fun vs H => (match vs with
      | [a, v] => heap1 (storeE tb H t a v)
      | _ => none)
  | .mapUpdate t _ _ _ => .mk fun vs H => (match vs with
      | [m, k, v] => heap1 (mapUpdE tb H t m k v)
      | _ => none)
  | .call c => (match c.callee with
    | .builtin .len => (match c.argTypes[0]? with
      | some t => .mk fun vs H => extK tb (.call c) vs H (is1 vs (lenE tb H t))
      | none => .mk fun vs H => opE tb F H (.call c) vs)
    | .builtin .append => .mk fun vs H => (match vs with
      | [s, x] => heap2 (appendE tb H c.argTypes s x)
      | _ => none)
    | .value _ => .mk fun vs H => callK tb F vs H
    | _ => .mk fun vs H => opE tb F H (.call c) vs)
  | op => .mk fun vs H => opE tb F H op vs
theorem is1_eq {vs : List Value} {f : Value → Option Value} : is1 vs f = (match vs with | [a] => f a | _ => none) := rfl
theorem opX_eq (F : Fun) (H : Hp) (op : Op) (vs : List Value) : (opX tb F op).run vs H = opE tb F H op vs := by
  cases op with
  | move x => exact (extK_eq (op := .move x) rfl).trans (opE_of_pure (tb := tb) (F := F) (H := H) (op := .move x) (vs := vs) rfl rfl rfl).symm
  | assign x => exact (extK_eq (op := .assign x) rfl).trans (opE_of_pure (tb := tb) (F := F) (H := H) (op := .assign x) (vs := vs) rfl rfl rfl).symm
  | load t x => exact (extK_eq (op := .load t x) rfl).trans (opE_of_pure (tb := tb) (F := F) (H := H) (op := .load t x) (vs := vs) rfl rfl rfl).symm
  | nilCheck x => exact (extK_eq (op := .nilCheck x) rfl).trans (opE_of_pure (tb := tb) (F := F) (H := H) (op := .nilCheck x) (vs := vs) rfl rfl rfl).symm
  | binOp op t x y ty => exact (extK_eq (op := .binOp op t x y ty) rfl).trans (opE_of_pure (tb := tb) (F := F) (H := H) (op := .binOp op t x y ty) (vs := vs) rfl rfl rfl).symm
  | unOp op x t => exact (extK_eq (op := .unOp op x t) rfl).trans (opE_of_pure (tb := tb) (F := F) (H := H) (op := .unOp op x t) (vs := vs) rfl rfl rfl).symm
  | convert s d x => exact (extK_eq (op := .convert s d x) rfl).trans (opE_of_pure (tb := tb) (F := F) (H := H) (op := .convert s d x) (vs := vs) rfl rfl rfl).symm
  | makeInterface t x => exact (extK_eq (op := .makeInterface t x) rfl).trans (opE_of_pure (tb := tb) (F := F) (H := H) (op := .makeInterface t x) (vs := vs) rfl rfl rfl).symm
  | fieldAddr s x f => exact (extK_eq (op := .fieldAddr s x f) rfl).trans (opE_of_pure (tb := tb) (F := F) (H := H) (op := .fieldAddr s x f) (vs := vs) rfl rfl rfl).symm
  | field t x f => exact (extK_eq (op := .field t x f) rfl).trans (opE_of_pure (tb := tb) (F := F) (H := H) (op := .field t x f) (vs := vs) rfl rfl rfl).symm
  | indexAddr t x i => exact (extK_eq (op := .indexAddr t x i) rfl).trans (opE_of_pure (tb := tb) (F := F) (H := H) (op := .indexAddr t x i) (vs := vs) rfl rfl rfl).symm
  | index t x i => exact (extK_eq (op := .index t x i) rfl).trans (opE_of_pure (tb := tb) (F := F) (H := H) (op := .index t x i) (vs := vs) rfl rfl rfl).symm
  | lookup t x i ok => exact (extK_eq (op := .lookup t x i ok) rfl).trans (opE_of_pure (tb := tb) (F := F) (H := H) (op := .lookup t x i ok) (vs := vs) rfl rfl rfl).symm
  | build t parts => exact (extK_eq (op := .build t parts) rfl).trans (opE_of_pure (tb := tb) (F := F) (H := H) (op := .build t parts) (vs := vs) rfl rfl rfl).symm
  | extract x i => exact (extK_eq (op := .extract x i) rfl).trans (opE_of_pure (tb := tb) (F := F) (H := H) (op := .extract x i) (vs := vs) rfl rfl rfl).symm
  | alloc e => exact (opE_of_alloc (tb := tb) (F := F) (H := H) (op := .alloc e) (vs := vs) (pureE_none rfl rfl) rfl rfl).symm
  | box e x => exact (opE_of_alloc (tb := tb) (F := F) (H := H) (op := .box e x) (vs := vs) (pureE_none rfl rfl) rfl rfl).symm
  | store t a x =>
    refine Eq.trans ?_ (opE_of_heap (op := .store t a x) (pureE_none rfl rfl) rfl rfl).symm
    match vs with
    | [] => rfl
    | [_] => rfl
    | [a', v'] =>
      show heap1 (storeE tb H t a' v') = heapK (match storeE tb H t a' v' with
        | some H' => some (none, H')
        | none => none)
      cases storeE tb H t a' v' <;> rfl
    | _ :: _ :: _ :: _ => rfl
  | mapUpdate t m k x =>
    refine Eq.trans ?_ (opE_of_heap (op := .mapUpdate t m k x) (pureE_none rfl rfl) rfl rfl).symm
    match vs with
    | [] => rfl
    | [_] => rfl
    | [_, _] => rfl
    | [m', k', v'] =>
      show heap1 (mapUpdE tb H t m' k' v') = heapK (match mapUpdE tb H t m' k' v' with
        | some H' => some (none, H')
        | none => none)
      cases mapUpdE tb H t m' k' v' <;> rfl
    | _ :: _ :: _ :: _ :: _ => rfl
  | call c =>
    obtain ⟨callee, args, ts⟩ := c
    cases callee with
    | value f =>
      show callK tb F vs H = _
      have hp : ∀ vs, pureE tb H (.call ⟨.value f, args, ts⟩) vs = none := fun vs => pureE_none rfl rfl
      unfold opE
      rw [hp]
      match vs with
      | [] => rfl
      | v :: args' =>
        cases v with
        | func fn first captured =>
          cases fn with
          | func f' =>
            show (match tb.fn.get f' with
              | some _ => heap2 (F f' (first.toList ++ args' ++ captured.toList) H)
              | none => none) = (match tb.fn.get f' with
              | some _ => (match F f' (first.toList ++ args' ++ captured.toList) H with
                | some (v, H') => some (.chain, v, H')
                | none => none)
              | none => none)
            cases tb.fn.get f' with
            | none => rfl
            | some g =>
              dsimp only
              cases F f' (first.toList ++ args' ++ captured.toList) H with
              | none => rfl
              | some q => rfl
          | _ => rfl
        | _ => rfl
    | invoke r m => rfl
    | builtin b =>
      cases b with
      | len =>
        cases hts : ts[0]? with
        | none => simp only [opX, hts]; rfl
        | some t =>
          have e1 : (opX tb F (.call ⟨.builtin .len, args, ts⟩)).run vs H = extK tb (.call ⟨.builtin .len, args, ts⟩) vs H (is1 vs (lenE tb H t)) := by simp only [opX, hts]; rfl
          rw [e1]
          refine (extK_eq ?_).trans (opE_of_pure (op := .call ⟨.builtin .len, args, ts⟩) rfl rfl rfl).symm
          match vs with
          | [] => simp only [pure0, is1]
          | [a] => simp only [pure0, is1, hts]
          | _ :: _ :: _ => simp only [pure0, is1]
      | append =>
        refine Eq.trans ?_ (opE_of_heap (op := .call ⟨.builtin .append, args, ts⟩) (pureE_none rfl rfl) rfl rfl).symm
        match vs with
        | [] => rfl
        | [_] => rfl
        | [s', x'] =>
          show heap2 (appendE tb H ts s' x') = heapK (match appendE tb H ts s' x' with
            | some (v, H') => some (some v, H')
            | none => none)
          cases appendE tb H ts s' x' with
          | none => rfl
          | some q => rfl
        | _ :: _ :: _ :: _ => rfl
      | _ => rfl
  | _ => rfl
noncomputable def opC (tb : Tab) (F : Fun) (op : Op) : CO := opX tb F op
theorem opC_eq (F : Fun) (H : Hp) (op : Op) (vs : List Value) : (opC tb F op).run vs H = opE tb F H op vs := opX_eq F H op vs
end Go.Proofs.Ytnjfbcoddbeggaa.Sx
