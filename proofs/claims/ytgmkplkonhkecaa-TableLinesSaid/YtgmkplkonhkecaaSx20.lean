/-
  The runner once more, its program read once: what an operation, a region, a body does is told by what the kernel keeps for the next time; it comes to the same.
-/
import Derived.Test.YtgmkplkonhkecaaSx19
namespace Go.Proofs.Ytgmkplkonhkecaa.Sx
variable {σ : Nat → Int} {P : Program} {tb : Tab}

noncomputable def orE {α : Type} (a b : Option α) : Option α := match a with
  | some r => some r
  | none => b
theorem hint_eq {α : Type} {a b : Option α} (h : ∀ r, a = some r → b = some r) : orE a b = b := by
  cases a with
  | none => rfl
  | some r => exact (h r rfl).symm

/-! ### Operands -/
inductive EV where
  | no
  | mk (f : Tm → List Value)
noncomputable def evC : List Operand → EV
  | [] => .mk fun _ => []
  | x :: xs => match evC xs with
    | .no => .no
    | .mk g => match x with
      | .tmp t => .mk fun T => T.at t :: g T
      | .const v => (match okV deep 0 v with
        | true => .mk fun T => v :: g T
        | false => .no)
      | .global _ => .no
      | .func f => .mk fun T => .func (.func f) #[] #[] :: g T
theorem evC_eq (T : Tm) : ∀ xs, evL T xs = (match evC xs with | .no => none | .mk f => some (f T))
  | [] => rfl
  | x :: xs => by
    have ih := evC_eq T xs
    cases hx : evC xs with
    | no =>
      rw [hx] at ih
      rw [evL, evC, hx, ih]
      cases evE T x <;> rfl
    | mk g =>
      rw [hx] at ih
      rw [evL, evC, hx, ih]
      cases x with
      | tmp t => rfl
      | global g => rfl
      | func f => rfl
      | const v =>
        cases hk : okV deep 0 v <;> simp [evE, hk]

/-! ### Operations -/
inductive CO where
  | mk (f : List Value → Hp → Option (K × Value × Hp))
noncomputable def CO.run (c : CO) : List Value → Hp → Option (K × Value × Hp) := CO.rec (motive := fun _ => List Value → Hp → Option (K × Value × Hp)) (fun f => f) c

inductive CB where
  | no
  | mk (f : IntKind → Int → Int → Value)
noncomputable def binC : BinOp → CB
  | .add => .mk fun k a b => .int k (wrapE k (a + b))
  | .sub => .mk fun k a b => .int k (wrapE k (a - b))
  | .eql => .mk fun _ a b => .bool (intEqE a b)
  | .neq => .mk fun _ a b => .bool (!intEqE a b)
  | .lss => .mk fun _ a b => .bool (intLtE a b)
  | .leq => .mk fun _ a b => .bool (!intLtE b a)
  | .gtr => .mk fun _ a b => .bool (intLtE b a)
  | .geq => .mk fun _ a b => .bool (!intLtE a b)
  | _ => .no
theorem binC_eq {op : BinOp} {f : IntKind → Int → Int → Value} (h : binC op = .mk f) {tb : Tab} {t : TypeId} {k k' : IntKind} {a b : Int} (hk : kindEq k k' = true) : binE0 tb op t (.int k a) (.int k' b) = some (f k a b) := by
  cases op <;> cases h <;> simp [binE0, hk]
noncomputable def pureK (H : Hp) : Option Value → Option (K × Value × Hp)
  | some v => some (.pure, v, H)
  | none => none
/-- an operation on numbers, and what leaves memory alone, at once -/
noncomputable def fastC (tb : Tab) (op : Op) : CO := match op with
  | .move _ => .mk fun vs H => (match vs with | [v] => some (.pure, v, H) | _ => none)
  | .assign _ => .mk fun vs H => (match vs with | [v] => some (.pure, v, H) | _ => none)
  | .load t _ => (match tb.ty.get t with
    | some y => (match isAggD y.desc with
      | true => .mk fun vs H => (match vs with | [a] => pureK H (loadE tb H t a) | _ => none)
      | false => .mk fun vs H => (match vs with
        | [.pointer (some ⟨b, off, none⟩)] => (match H.get b with
          | some (.cells c _ _) => pureK H c[off]?
          | _ => none)
        | _ => none))
    | none => .mk fun _ _ => none)
  | .nilCheck _ => .mk fun vs H => (match vs with | [.pointer (some a)] => some (.pure, .pointer (some a), H) | _ => none)
  | .pick _ _ _ => .mk fun vs H => (match vs with | [.bool c, a, b] => some (.pure, (bif c then a else b), H) | _ => none)
  | .binOp op _t _ _ _ => (match binC op with
    | .no => .mk fun _ _ => none
    | .mk f => .mk fun vs H => (match vs with
      | [.int k a, .int k' b] => bif kindEq k k' then some (.pure, f k a b, H) else none
      | _ => none))
  | .fieldAddr s _ f => (match tb.ty.get s with
    | some y => (match y.desc with
      | .struct fs => (match fs[f]? with
        | some fd => (match tb.ty.get fd.type with
          | some z => (match Nat.beq z.info.size 0 with
            | true => .mk fun _ _ => none
            | false => .mk fun vs H => (match vs with
              | [.pointer (some ⟨b, off, none⟩)] => some (.pure, .pointer (some ⟨b, Nat.add off fd.offset, none⟩), H)
              | _ => none))
          | none => .mk fun _ _ => none)
        | none => .mk fun _ _ => none)
      | _ => .mk fun _ _ => none)
    | none => .mk fun _ _ => none)
  | .store t _ _ => .mk fun vs H => (match vs with
    | [a, v] => (match storeE tb H t a v with
      | some H' => some (.chain, undef, H')
      | none => none)
    | _ => none)
  | _ => .mk fun _ _ => none
theorem opE_mkp {F : Fun} {H : Hp} {op : Op} {vs : List Value} {v : Value} (h : pureE tb H op vs = some v) : opE tb F H op vs = some (.pure, v, H) := by
  unfold opE; rw [h]
theorem pureK_some {H : Hp} {o : Option Value} {r : K × Value × Hp} (h : pureK H o = some r) : ∃ v, o = some v ∧ r = (.pure, v, H) := by
  cases o with
  | none => cases h
  | some v => cases h; exact ⟨v, rfl, rfl⟩
theorem fastC_eq (F : Fun) (H : Hp) (op : Op) (vs : List Value) : ∀ r, (fastC tb op).run vs H = some r → opE tb F H op vs = some r := by
  intro r h
  cases op with
  | move x =>
    simp only [fastC, CO.run] at h
    split at h
    · cases h; exact opE_mkp rfl
    · cases h
  | assign x =>
    simp only [fastC, CO.run] at h
    split at h
    · cases h; exact opE_mkp rfl
    · cases h
  | load t x =>
    simp only [fastC] at h
    cases hy : tb.ty.get t with
    | none => rw [hy] at h; simp only [CO.run] at h; cases h
    | some y =>
      rw [hy] at h
      dsimp only at h
      cases ha : isAggD y.desc with
      | true =>
        rw [ha] at h
        simp only [CO.run] at h
        split at h
        · obtain ⟨v, hv, rfl⟩ := pureK_some h
          exact opE_mkp hv
        · cases h
      | false =>
        rw [ha] at h
        simp only [CO.run] at h
        split at h
        · rename_i b off
          split at h
          · rename_i c fx e hg
            obtain ⟨v, hv, rfl⟩ := pureK_some h
            refine opE_mkp ?_
            show loadE tb H t (.pointer (some ⟨b, off, none⟩)) = some v
            simp only [loadE, hy, Hp.cells, hg, ha]
            exact hv
          · cases h
        · cases h
  | nilCheck x =>
    simp only [fastC, CO.run] at h
    split at h
    · cases h; exact opE_mkp rfl
    · cases h
  | pick a b c =>
    simp only [fastC, CO.run] at h
    split at h
    · cases h; exact opE_mkp rfl
    · cases h
  | binOp op t x y ty =>
    simp only [fastC] at h
    cases hb : binC op with
    | no => rw [hb] at h; simp only [CO.run] at h; cases h
    | mk f =>
      rw [hb] at h
      simp only [CO.run] at h
      split at h
      · rename_i k a k' b
        cases hk : kindEq k k' with
        | false => rw [hk] at h; cases h
        | true =>
          rw [hk] at h
          cases h
          refine opE_mkp ?_
          show nilE tb op t x y (.int k a) (.int k' b) = _
          simp only [nilE, binE, binC_eq hb hk]
      · cases h
  | fieldAddr s x f =>
    simp only [fastC] at h
    cases hy : tb.ty.get s with
    | none => rw [hy] at h; simp only [CO.run] at h; cases h
    | some y =>
      rw [hy] at h
      dsimp only at h
      split at h
      · rename_i fs hd
        split at h
        · rename_i fd hf
          split at h
          · rename_i z hz
            split at h
            · simp only [CO.run] at h; cases h
            · rename_i hs
              simp only [CO.run] at h
              split at h
              · rename_i b off
                cases h
                refine opE_mkp ?_
                show fieldAddrE tb s f (.pointer (some ⟨b, off, none⟩)) = _
                simp only [fieldAddrE, hy, hd, hf, hz, hs]
                rfl
              · cases h
          · simp only [CO.run] at h; cases h
        · simp only [CO.run] at h; cases h
      · simp only [CO.run] at h; cases h
  | store t a x =>
    simp only [fastC, CO.run] at h
    split at h
    · rename_i a' v'
      split at h
      · rename_i H' hs
        cases h
        simp only [opE, pureE, allocE, heapE, hs]
        rfl
      · cases h
    · cases h
  | _ => simp only [fastC, CO.run] at h; cases h
noncomputable def allocK (H : Hp) (o : Option (AO × (Nat → Value))) : Option (K × Value × Hp) := match o with
  | some (ob, mk) => bif okO H.nx ob then (match H.add ob with
      | some H' => some (.alloc, mk H.nx, H')
      | none => none) else none
  | none => none
noncomputable def heapK (o : Option (Option Value × Hp)) : Option (K × Value × Hp) := match o with
  | some (ov, H') => some (.chain, ov.getD undef, H')
  | none => none
noncomputable def heap1 (o : Option Hp) : Option (K × Value × Hp) := match o with
  | some H' => some (.chain, undef, H')
  | none => none
noncomputable def heap2 (o : Option (Value × Hp)) : Option (K × Value × Hp) := match o with
  | some (v, H') => some (.chain, v, H')
  | none => none
noncomputable def callK (tb : Tab) (F : Fun) (vs : List Value) (H : Hp) : Option (K × Value × Hp) := match vs with
  | .func (.func f) first captured :: args => (match tb.fn.get f with
    | some _ => heap2 (F f (first.toList ++ args ++ captured.toList) H)
    | none => none)
  | _ => none
theorem opE_of_pure {F : Fun} {H : Hp} {op : Op} {vs : List Value} (h1 : allocE tb op vs = none) (h2 : heapE tb H op vs = none) (h3 : callE op vs = none) : opE tb F H op vs = pureK H (pureE tb H op vs) := by
  unfold opE
  rw [h1, h2, h3]
  cases pureE tb H op vs <;> rfl
theorem opE_of_alloc {F : Fun} {H : Hp} {op : Op} {vs : List Value} (h1 : pureE tb H op vs = none) (h2 : heapE tb H op vs = none) (h3 : callE op vs = none) : opE tb F H op vs = allocK H (allocE tb op vs) := by
  unfold opE
  rw [h1, h2, h3]
  cases allocE tb op vs with
  | none => rfl
  | some q => rfl
theorem opE_of_heap {F : Fun} {H : Hp} {op : Op} {vs : List Value} (h1 : pureE tb H op vs = none) (h2 : allocE tb op vs = none) (h3 : callE op vs = none) : opE tb F H op vs = heapK (heapE tb H op vs) := by
  unfold opE
  rw [h1, h2, h3]
  cases heapE tb H op vs with
  | none => rfl
  | some q => rfl
noncomputable def is1 (vs : List Value) (f : Value → Option Value) : Option Value := match vs with
  | [a] => f a
  | _ => none
noncomputable def is2 (vs : List Value) (f : Value → Value → Option Value) : Option Value := match vs with
  | [a, b] => f a b
  | _ => none
/-- each operation by itself -/
noncomputable def opX (tb : Tab) (F : Fun) (op : Op) : CO := match op with
  | .move _ => .mk fun vs H => pureK H (is1 vs some)
  | .assign _ => .mk fun vs H => pureK H (is1 vs some)
  | .load t _ => .mk fun vs H => pureK H (is1 vs (loadE tb H t))
  | .nilCheck _ => .mk fun vs H => pureK H (is1 vs nilCheckE)
  | .binOp op t x y _ => .mk fun vs H => pureK H (is2 vs (nilE tb op t x y))
  | .unOp op _ _ => .mk fun vs H => pureK H (is1 vs (unE op))
  | .convert s d _ => .mk fun vs H => pureK H (is1 vs (convE tb H s d))
  | .makeInterface t _ => .mk fun vs H => pureK H (is1 vs (ifaceE tb t))
  | .fieldAddr s _ f => .mk fun vs H => pureK H (is1 vs (fieldAddrE tb s f))
  | .field t _ f => .mk fun vs H => pureK H (is1 vs (fieldE tb t f))
  | .indexAddr t _ _ => .mk fun vs H => pureK H (is2 vs (indexAddrE tb t))
  | .index t _ _ => .mk fun vs H => pureK H (is2 vs (indexE tb t))
  | .lookup t _ _ ok => .mk fun vs H => pureK H (is2 vs (lookupE tb H t ok))
  | .build t parts => .mk fun vs H => pureK H (buildE tb t ((parts.toList.map (·.1)).zip vs))
  | .extract _ i => .mk fun vs H => pureK H (is1 vs (extractE i))
  | .alloc e => .mk fun vs H => allocK H (allocE tb (.alloc e) vs)
  | .box e _x => .mk fun vs H => allocK H (match vs with
      | [v] => some (.cells v.cells.toList none e, fun n => .pointer (some ⟨n, 0, none⟩))
      | _ => none)
  | .store t _ _ => .mk fun vs H => (match vs with
      | [a, v] => heap1 (storeE tb H t a v)
      | _ => none)
  | .mapUpdate t _ _ _ => .mk fun vs H => (match vs with
      | [m, k, v] => heap1 (mapUpdE tb H t m k v)
      | _ => none)
  | .call c => (match c.callee with
    | .builtin .len => (match c.argTypes[0]? with
      | some t => .mk fun vs H => pureK H (is1 vs (lenE tb H t))
      | none => .mk fun _ _ => none)
    | .builtin .append => .mk fun vs H => (match vs with
      | [s, x] => heap2 (appendE tb H c.argTypes s x)
      | _ => none)
    | .value _ => .mk fun vs H => callK tb F vs H
    | _ => .mk fun vs H => opE tb F H (.call c) vs)
  | op => .mk fun vs H => opE tb F H op vs
theorem is1_eq {vs : List Value} {f : Value → Option Value} : is1 vs f = (match vs with | [a] => f a | _ => none) := rfl
theorem opX_eq (F : Fun) (H : Hp) (op : Op) (vs : List Value) : (opX tb F op).run vs H = opE tb F H op vs := by
  cases op with
  | move x => exact (opE_of_pure (tb := tb) (F := F) (H := H) (op := .move x) (vs := vs) rfl rfl rfl).symm
  | assign x => exact (opE_of_pure (tb := tb) (F := F) (H := H) (op := .assign x) (vs := vs) rfl rfl rfl).symm
  | load t x => exact (opE_of_pure (tb := tb) (F := F) (H := H) (op := .load t x) (vs := vs) rfl rfl rfl).symm
  | nilCheck x => exact (opE_of_pure (tb := tb) (F := F) (H := H) (op := .nilCheck x) (vs := vs) rfl rfl rfl).symm
  | binOp op t x y ty => exact (opE_of_pure (tb := tb) (F := F) (H := H) (op := .binOp op t x y ty) (vs := vs) rfl rfl rfl).symm
  | unOp op x t => exact (opE_of_pure (tb := tb) (F := F) (H := H) (op := .unOp op x t) (vs := vs) rfl rfl rfl).symm
  | convert s d x => exact (opE_of_pure (tb := tb) (F := F) (H := H) (op := .convert s d x) (vs := vs) rfl rfl rfl).symm
  | makeInterface t x => exact (opE_of_pure (tb := tb) (F := F) (H := H) (op := .makeInterface t x) (vs := vs) rfl rfl rfl).symm
  | fieldAddr s x f => exact (opE_of_pure (tb := tb) (F := F) (H := H) (op := .fieldAddr s x f) (vs := vs) rfl rfl rfl).symm
  | field t x f => exact (opE_of_pure (tb := tb) (F := F) (H := H) (op := .field t x f) (vs := vs) rfl rfl rfl).symm
  | indexAddr t x i => exact (opE_of_pure (tb := tb) (F := F) (H := H) (op := .indexAddr t x i) (vs := vs) rfl rfl rfl).symm
  | index t x i => exact (opE_of_pure (tb := tb) (F := F) (H := H) (op := .index t x i) (vs := vs) rfl rfl rfl).symm
  | lookup t x i ok => exact (opE_of_pure (tb := tb) (F := F) (H := H) (op := .lookup t x i ok) (vs := vs) rfl rfl rfl).symm
  | build t parts => exact (opE_of_pure (tb := tb) (F := F) (H := H) (op := .build t parts) (vs := vs) rfl rfl rfl).symm
  | extract x i => exact (opE_of_pure (tb := tb) (F := F) (H := H) (op := .extract x i) (vs := vs) rfl rfl rfl).symm
  | alloc e => exact (opE_of_alloc (tb := tb) (F := F) (H := H) (op := .alloc e) (vs := vs) rfl rfl rfl).symm
  | box e x => exact (opE_of_alloc (tb := tb) (F := F) (H := H) (op := .box e x) (vs := vs) rfl rfl rfl).symm
  | store t a x =>
    refine Eq.trans ?_ (opE_of_heap (op := .store t a x) rfl rfl rfl).symm
    match vs with
    | [] => rfl
    | [_] => rfl
    | [a', v'] =>
      show heap1 (storeE tb H t a' v') = heapK (match storeE tb H t a' v' with
        | some H' => some (none, H')
        | none => none)
      cases storeE tb H t a' v' <;> rfl
    | _ :: _ :: _ :: _ => rfl
  | mapUpdate t m k x =>
    refine Eq.trans ?_ (opE_of_heap (op := .mapUpdate t m k x) rfl rfl rfl).symm
    match vs with
    | [] => rfl
    | [_] => rfl
    | [_, _] => rfl
    | [m', k', v'] =>
      show heap1 (mapUpdE tb H t m' k' v') = heapK (match mapUpdE tb H t m' k' v' with
        | some H' => some (none, H')
        | none => none)
      cases mapUpdE tb H t m' k' v' <;> rfl
    | _ :: _ :: _ :: _ :: _ => rfl
  | call c =>
    obtain ⟨callee, args, ts⟩ := c
    cases callee with
    | value f =>
      show callK tb F vs H = _
      match vs with
      | [] => rfl
      | v :: args' =>
        cases v with
        | func fn first captured =>
          cases fn with
          | func f' =>
            show (match tb.fn.get f' with
              | some _ => heap2 (F f' (first.toList ++ args' ++ captured.toList) H)
              | none => none) = (match tb.fn.get f' with
              | some _ => (match F f' (first.toList ++ args' ++ captured.toList) H with
                | some (v, H') => some (.chain, v, H')
                | none => none)
              | none => none)
            cases tb.fn.get f' with
            | none => rfl
            | some g =>
              dsimp only
              cases F f' (first.toList ++ args' ++ captured.toList) H with
              | none => rfl
              | some q => rfl
          | _ => rfl
        | _ => rfl
    | invoke r m => rfl
    | builtin b =>
      cases b with
      | len =>
        refine Eq.trans ?_ (opE_of_pure (op := .call ⟨.builtin .len, args, ts⟩) rfl rfl rfl).symm
        cases hts : ts[0]? with
        | none =>
          have e1 : (opX tb F (.call ⟨.builtin .len, args, ts⟩)).run vs H = none := by simp only [opX, hts]; rfl
          have e2 : pureE tb H (.call ⟨.builtin .len, args, ts⟩) vs = none := by
            match vs with
            | [] => simp only [pureE]
            | [a] => simp only [pureE, hts]
            | _ :: _ :: _ => simp only [pureE]
          rw [e1, e2]
          first | done | rfl
        | some t =>
          have e1 : (opX tb F (.call ⟨.builtin .len, args, ts⟩)).run vs H = pureK H (is1 vs (lenE tb H t)) := by simp only [opX, hts]; rfl
          rw [e1]
          congr 1
          match vs with
          | [] => simp only [pureE, is1]
          | [a] => simp only [pureE, is1, hts]
          | _ :: _ :: _ => simp only [pureE, is1]
      | append =>
        refine Eq.trans ?_ (opE_of_heap (op := .call ⟨.builtin .append, args, ts⟩) rfl rfl rfl).symm
        match vs with
        | [] => rfl
        | [_] => rfl
        | [s', x'] =>
          show heap2 (appendE tb H ts s' x') = heapK (match appendE tb H ts s' x' with
            | some (v, H') => some (some v, H')
            | none => none)
          cases appendE tb H ts s' x' with
          | none => rfl
          | some q => rfl
        | _ :: _ :: _ :: _ => rfl
      | _ => rfl
  | _ => rfl
noncomputable def opC (tb : Tab) (F : Fun) (op : Op) : CO := opX tb F op
theorem opC_eq (F : Fun) (H : Hp) (op : Op) (vs : List Value) : (opC tb F op).run vs H = opE tb F H op vs := opX_eq F H op vs
end Go.Proofs.Ytgmkplkonhkecaa.Sx
