/-
  The runner, its program read once, each operation with what is behind it: it comes to the same.
-/
import Derived.Test.YtnjfbcoddbeggaaSx21
namespace Go.Proofs.Ytnjfbcoddbeggaa.Sx
variable {σ : Sg} {P : Program} {tb : Tab}
abbrev RR := Option (Tm × Hp)

/-! ### Operands -/
inductive OV where
  | no
  | mk (g : Frm → Value)
noncomputable def ovC : Operand → OV
  | .tmp t => match (selC (Nat.div t 16) : SV (N16 Value)), (selC (Nat.mod t 16) : SV Value) with
    | .mk g _, .mk h _ => .mk fun tr => h (g tr)
    | _, _ => .no
  | .const v => match okV deep 0 v with
    | true => .mk fun _ => v
    | false => .no
  | .global _ => .no
  | .func f => .mk fun _ => .func (.func f) #[] #[]
theorem ovC_eq {x : Operand} {g : Frm → Value} (h : ovC x = .mk g) (tr : Frm) (n : Nat) : evE ⟨tr, n⟩ x = some (g tr) := by
  cases x with
  | tmp t =>
    simp only [ovC] at h
    split at h
    · rename_i g1 s1 g2 s2 h1 h2
      cases h
      show some (frGet tr t) = some (g2 (g1 tr))
      unfold frGet
      rw [h1, h2]
    · cases h
  | const v =>
    simp only [ovC] at h
    cases hk : okV deep 0 v with
    | false => rw [hk] at h; cases h
    | true => rw [hk] at h; cases h; simp [evE, hk]
  | global g => cases h
  | func f => cases h; rfl

/-! ### Operations with what is behind them -/
noncomputable def onInt (v : Value) (d : RR) (f : IntKind → Int → RR) : RR := match v with
  | .int k n => f k n
  | _ => d
noncomputable def onPtr (v : Value) (d : RR) (f : Nat → Nat → RR) : RR := match v with
  | .pointer (some ⟨b, off, none⟩) => f b off
  | _ => d
noncomputable def onBool (v : Value) (d : RR) (t e : RR) : RR := match v with
  | .bool true => t
  | .bool false => e
  | _ => d
noncomputable def nthF {α : Type} (l : List α) : Nat → Option α :=
  List.rec (motive := fun _ => Nat → Option α) (fun _ => none) (fun x _ ih n => Nat.rec (motive := fun _ => Option α) (some x) (fun n _ => ih n) n) l
theorem nthF_eq {α : Type} : ∀ (l : List α) (n : Nat), nthF l n = l[n]?
  | [], n => by simp [nthF]
  | x :: l, 0 => by
    show some x = _
    simp
  | x :: l, n + 1 => by
    show nthF l n = _
    rw [nthF_eq l n]
    simp
noncomputable def addE (a b : Int) : Int := match a, b with
  | .ofNat m, .ofNat n => .ofNat (Nat.add m n)
  | a, b => a + b
theorem addE_eq (a b : Int) : addE a b = a + b := by
  cases a <;> cases b <;> rfl
inductive FO where
  | no
  | mk (g : Frm → Hp → (Value → Hp → RR) → RR → RR)
noncomputable def slowE (tb : Tab) (F : Fun) (op : Op) (T : Tm) (H : Hp) (k : Value → Hp → RR) : RR := match evL T op.operands.toList with
  | none => none
  | some vs => (match opE tb F H op vs with
    | some (_, v, H') => k v H'
    | none => none)
noncomputable def binF : BinOp → CB
  | .add => .mk fun k a b => .int k (wrapE k (addE a b))
  | op => binC op
theorem binF_eq {op : BinOp} {f : IntKind → Int → Int → Value} (h : binF op = .mk f) {tb : Tab} {t : TypeId} {k k' : IntKind} {a b : Int} (hk : kindEq k k' = true) : binE0 tb op t (.int k a) (.int k' b) = some (f k a b) := by
  cases op with
  | add =>
    cases h
    show binE0 tb .add t (.int k a) (.int k' b) = some (.int k (wrapE k (addE a b)))
    rw [addE_eq]
    exact binC_eq (op := .add) (f := fun k a b => .int k (wrapE k (a + b))) rfl hk
  | _ =>
    simp only [binF] at h
    exact binC_eq h hk
noncomputable def foC (tb : Tab) (op : Op) : FO := match op with
  | .move x => (match ovC x with
    | .mk g => .mk fun tr H k _ => k (g tr) H
    | .no => .no)
  | .assign x => (match ovC x with
    | .mk g => .mk fun tr H k _ => k (g tr) H
    | .no => .no)
  | .nilCheck x => (match ovC x with
    | .mk g => .mk fun tr H k d => onPtr (g tr) d fun b off => k (.pointer (some ⟨b, off, none⟩)) H
    | .no => .no)
  | .pick c x y => (match ovC c, ovC x, ovC y with
    | .mk h, .mk f, .mk g => .mk fun tr H k d => onBool (h tr) d (k (f tr) H) (k (g tr) H)
    | _, _, _ => .no)
  | .binOp op _ x y _ => (match ovC x, ovC y, binF op with
    | .mk f, .mk g, .mk e => .mk fun tr H k d => onInt (f tr) d fun j a => onInt (g tr) d fun j' b => Bool.rec (motive := fun _ => RR) d (k (e j a b) H) (kindEq j j')
    | _, _, _ => .no)
  | .load t x => (match ovC x, tb.ty.get t with
    | .mk g, some y => (match isAggD y.desc with
      | true => .no
      | false => .mk fun tr H k d => onPtr (g tr) d fun b off => (match H.get b with
        | some (.cells c _ _) => Option.rec (motive := fun _ => RR) d (fun v => k v H) (nthF c off)
        | _ => d))
    | _, _ => .no)
  | .fieldAddr s x f => (match ovC x, tb.ty.get s with
    | .mk g, some y => (match y.desc with
      | .struct fs => (match fs[f]? with
        | some fd => (match tb.ty.get fd.type with
          | some z => (match Nat.beq z.info.size 0 with
            | true => .no
            | false => .mk fun tr H k d => onPtr (g tr) d fun b off => k (.pointer (some ⟨b, Nat.add off fd.offset, none⟩)) H)
          | none => .no)
        | none => .no)
      | _ => .no)
    | _, _ => .no)
  | _ => .no
theorem slow_pure {F : Fun} {op : Op} {T : Tm} {H : Hp} {k : Value → Hp → RR} {vs : List Value} {v : Value} (h1 : evL T op.operands.toList = some vs) (h2 : pureE tb H op vs = some v) : slowE tb F op T H k = k v H := by
  unfold slowE
  rw [h1]
  dsimp only
  rw [opE_mkp h2]
theorem ev1 {T : Tm} {x : Operand} {v : Value} (h : evE T x = some v) : evL T [x] = some [v] := by rw [evL, h]; rfl
theorem ev2 {T : Tm} {x y : Operand} {v w : Value} (h : evE T x = some v) (h2 : evE T y = some w) : evL T [x, y] = some [v, w] := by rw [evL, h, ev1 h2]
theorem ev3 {T : Tm} {x y z : Operand} {v w u : Value} (h : evE T x = some v) (h2 : evE T y = some w) (h3 : evE T z = some u) : evL T [x, y, z] = some [v, w, u] := by rw [evL, h, ev2 h2 h3]
theorem onPtr_eq {v : Value} {d r : RR} {f : Nat → Nat → RR} (hd : d = r) (h : ∀ b off, v = .pointer (some ⟨b, off, none⟩) → f b off = r) : onPtr v d f = r := by
  unfold onPtr
  split
  · exact h _ _ rfl
  · exact hd
theorem onInt_eq {v : Value} {d r : RR} {f : IntKind → Int → RR} (hd : d = r) (h : ∀ k n, v = .int k n → f k n = r) : onInt v d f = r := by
  unfold onInt
  split
  · exact h _ _ rfl
  · exact hd
theorem onBool_eq {v : Value} {d r t e : RR} (hd : d = r) (h1 : v = .bool true → t = r) (h2 : v = .bool false → e = r) : onBool v d t e = r := by
  unfold onBool
  split
  · exact h1 rfl
  · exact h2 rfl
  · exact hd
theorem foC_eq {F : Fun} {op : Op} {g : Frm → Hp → (Value → Hp → RR) → RR → RR} (h : foC tb op = .mk g) (tr : Frm) (n : Nat) (H : Hp) (k : Value → Hp → RR) :
    g tr H k (slowE tb F op ⟨tr, n⟩ H k) = slowE tb F op ⟨tr, n⟩ H k := by
  cases op with
  | move x =>
    simp only [foC] at h
    split at h
    · rename_i f hx
      cases h
      exact (slow_pure (ev1 (ovC_eq hx tr n)) rfl).symm
    · cases h
  | assign x =>
    simp only [foC] at h
    split at h
    · rename_i f hx
      cases h
      exact (slow_pure (ev1 (ovC_eq hx tr n)) rfl).symm
    · cases h
  | nilCheck x =>
    simp only [foC] at h
    split at h
    · rename_i f hx
      cases h
      refine onPtr_eq rfl fun b off hv => ?_
      have he := ovC_eq hx tr n
      rw [hv] at he
      exact (slow_pure (ev1 he) rfl).symm
    · cases h
  | pick c x y =>
    simp only [foC] at h
    split at h
    · rename_i fc fx fy hc hx hy
      cases h
      refine onBool_eq rfl (fun hv => ?_) (fun hv => ?_)
      all_goals
        have he := ovC_eq hc tr n
        rw [hv] at he
        exact (slow_pure (ev3 he (ovC_eq hx tr n) (ovC_eq hy tr n)) rfl).symm
    · cases h
  | binOp op t x y ty =>
    simp only [foC] at h
    split at h
    · rename_i fx fy e hx hy hb
      cases h
      refine onInt_eq rfl fun j a hv => onInt_eq rfl fun j' b hw => ?_
      have h1 := ovC_eq hx tr n
      have h2 := ovC_eq hy tr n
      rw [hv] at h1
      rw [hw] at h2
      cases hk : kindEq j j' with
      | false => rfl
      | true =>
        refine (slow_pure (ev2 h1 h2) ?_).symm
        refine pureE_of0 ?_
        show nilE tb op t x y (.int j a) (.int j' b) = _
        simp only [nilE, binE, binF_eq hb hk]
    · cases h
  | load t x =>
    simp only [foC] at h
    split at h
    · rename_i f y hx hy
      split at h
      · cases h
      · rename_i ha
        cases h
        refine onPtr_eq rfl fun b off hv => ?_
        have he := ovC_eq hx tr n
        rw [hv] at he
        split
        · rename_i c fx e hg
          cases hc : nthF c off with
          | none => rfl
          | some v =>
            refine (slow_pure (ev1 he) ?_).symm
            refine pureE_of0 ?_
            show loadE tb H t (.pointer (some ⟨b, off, none⟩)) = some v
            rw [nthF_eq] at hc
            simp only [loadE, hy, Hp.cells, hg, ha]
            exact hc
        · rfl
    · cases h
  | fieldAddr s x f =>
    simp only [foC] at h
    split at h
    · rename_i g2 y hx hy
      split at h
      · rename_i fs hd
        split at h
        · rename_i fd hf
          split at h
          · rename_i z hz
            split at h
            · cases h
            · rename_i hs
              cases h
              refine onPtr_eq rfl fun b off hv => ?_
              have he := ovC_eq hx tr n
              rw [hv] at he
              refine (slow_pure (ev1 he) ?_).symm
              refine pureE_of0 ?_
              show fieldAddrE tb s f (.pointer (some ⟨b, off, none⟩)) = _
              simp only [fieldAddrE, hy, hd, hf, hz, hs]
              rfl
          · cases h
        · cases h
      · cases h
    · cases h
  | _ => cases h
end Go.Proofs.Ytnjfbcoddbeggaa.Sx
