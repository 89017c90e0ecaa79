/-
  Runs of closed code: a region whose order is open: what is looked at once, in the order of the text.
-/
import Derived.Test.YtnjfbcoddbeggaaSx13
namespace Go.Proofs.Ytnjfbcoddbeggaa.Sx
open Go
variable {σ : Sg}

/-! ### Equal values -/
noncomputable def optEq : Option Addr → Option Addr → Bool
  | some ⟨b, o, none⟩, some ⟨b', o', none⟩ => Nat.beq b b' && Nat.beq o o'
  | none, none => true
  | _, _ => false
mutual
noncomputable def vEq : Nat → Value → Value → Bool
  | 0, _, _ => false
  | n + 1, x, y => match x, y with
    | .bool a, .bool b => bif a then b else !b
    | .int j a, .int k b => kindEq j k && intEqE a b
    | .string a, .string b => bytesEqL a.data.toList b.data.toList
    | .pointer a, .pointer b => optEq a b
    | .slice a l c, .slice b m d => optEq a b && (Nat.beq l m && Nat.beq c d)
    | .map (some a), .map (some b) => Nat.beq a b
    | .map none, .map none => true
    | .float .f64 a, .float .f64 b => Nat.beq a b
    | .float .f32 a, .float .f32 b => Nat.beq a b
    | .nilIface, .nilIface => true
    | .nilFunc, .nilFunc => true
    | .iface t a, .iface u b => Nat.beq t u && vEq n a b
    | .agg a, .agg b => vEqL n a.toList b.toList
    | .tuple a, .tuple b => vEqL n a.toList b.toList
    | .func (.func f) a b, .func (.func g) c d => Nat.beq f g && (vEqL n a.toList c.toList && vEqL n b.toList d.toList)
    | _, _ => false
termination_by structural n => n
noncomputable def vEqL : Nat → List Value → List Value → Bool
  | 0, _, _ => false
  | n + 1, x, y => match x, y with
    | [], [] => true
    | a :: x, b :: y => vEq n a b && vEqL n x y
    | _, _ => false
termination_by structural n => n
end

theorem optEq_eq {a b : Option Addr} (h : optEq a b = true) : a = b := by
  unfold optEq at h
  split at h
  · simp only [Bool.and_eq_true, Nat.beq_eq] at h
    rw [h.1, h.2]
  · rfl
  · cases h
theorem intEqE_of {a b : Int} (h : intEqE a b = true) : a = b := by
  rw [intEqE_eq] at h; simpa using h
theorem bytesEqL_of {a b : List UInt8} (h : bytesEqL a b = true) : a = b := by
  rw [bytesEqL_eq] at h; simpa using h
theorem vEq_both : ∀ (n : Nat), (∀ x y, vEq n x y = true → x = y) ∧ (∀ x y, vEqL n x y = true → x = y) := by
  intro n
  induction n with
  | zero => exact ⟨fun x y h => by simp [vEq] at h, fun x y h => by simp [vEqL] at h⟩
  | succ n ih =>
    have arr : ∀ a b : Array Value, vEqL n a.toList b.toList = true → a = b := fun a b h => Array.ext' (ih.2 _ _ h)
    constructor
    · intro x y h
      unfold vEq at h
      split at h
      · rename_i a b; cases a <;> cases b <;> first | rfl | cases h
      · simp only [Bool.and_eq_true] at h
        rw [kindEq_eq h.1, intEqE_of h.2]
      · rename_i a b
        have := bytesEqL_of h
        obtain ⟨⟨a⟩⟩ := a
        obtain ⟨⟨b⟩⟩ := b
        cases this
        rfl
      · rw [optEq_eq h]
      · simp only [Bool.and_eq_true, Nat.beq_eq] at h
        rw [optEq_eq h.1, h.2.1, h.2.2]
      · simp only [Nat.beq_eq] at h; rw [h]
      · rfl
      · simp only [Nat.beq_eq] at h; rw [h]
      · simp only [Nat.beq_eq] at h; rw [h]
      · rfl
      · rfl
      · simp only [Bool.and_eq_true, Nat.beq_eq] at h
        rw [h.1, ih.1 _ _ h.2]
      · rw [arr _ _ h]
      · rw [arr _ _ h]
      · simp only [Bool.and_eq_true, Nat.beq_eq] at h
        rw [h.1, arr _ _ h.2.1, arr _ _ h.2.2]
      · cases h
    · intro x y h
      cases x with
      | nil => cases y with
        | nil => rfl
        | cons b y => simp [vEqL] at h
      | cons a x => cases y with
        | nil => simp [vEqL] at h
        | cons b y =>
          simp only [vEqL, Bool.and_eq_true] at h
          rw [ih.1 _ _ h.1, ih.2 _ _ h.2]

/-! ### Names that may be met -/
noncomputable def okP : Nat → (Nat → Bool) → Value → Bool
  | 0, _, _ => false
  | f + 1, p, v => match v with
    | .pointer (some a) => p a.block
    | .slice (some a) _ _ => p a.block
    | .map (some r) => p r
    | .func _ first captured => first.toList.all (okP f p) && captured.toList.all (okP f p)
    | .iface _ v => okP f p v
    | .agg cs => cs.toList.all (okP f p)
    | .tuple cs => cs.toList.all (okP f p)
    | _ => true
noncomputable def Env.On (p : Nat → Bool) (E E' : Env) : Prop := ∀ b, p b = true → E'.blk b = E.blk b ∧ E'.cap b = E.cap b
theorem den_on {E E' : Env} {p : Nat → Bool} (h : Env.On p E E') : ∀ (f : Nat) (v : Value), okP f p v = true → den σ E' v = den σ E v := by
  intro f
  induction f with
  | zero => intro v hv; simp [okP] at hv
  | succ f ih =>
    have hmap : ∀ cs : Array Value, cs.toList.all (okP f p) = true → cs.map (den σ E') = cs.map (den σ E) := by
      intro cs hc
      refine Array.map_congr_left fun x hx => ih x ?_
      exact List.all_eq_true.1 hc x (Array.mem_toList_iff.2 hx)
    intro v hv
    cases v with
    | pointer a =>
      cases a with
      | none => simp [den_pnil]
      | some a =>
        simp only [okP] at hv
        rw [den_pointer, den_pointer, (h _ hv).1]
    | slice a l c =>
      cases a with
      | none => simp [den_snil]
      | some a =>
        simp only [okP] at hv
        rw [den_slice, den_slice, (h _ hv).1, capOf, capOf, (h _ hv).2]
    | map r =>
      cases r with
      | none => simp [den_mnil]
      | some r =>
        simp only [okP] at hv
        rw [den_map, den_map, (h _ hv).1]
    | func fn a b =>
      simp only [okP, Bool.and_eq_true] at hv
      rw [den_func, den_func, hmap _ hv.1, hmap _ hv.2]
    | iface t v =>
      simp only [okP] at hv
      rw [den_iface, den_iface, ih _ hv]
    | agg cs =>
      simp only [okP] at hv
      rw [den_agg, den_agg, hmap _ hv]
    | tuple cs =>
      simp only [okP] at hv
      rw [den_tuple, den_tuple, hmap _ hv]
    | float k b => cases k <;> simp [den]
    | _ => simp [den]

/-! ### What is met in the order of the text -/
structure Rec where
  o : Oper
  T : Tm
  H : Hp
  p : Nat
  w : Bool
  vs : List Value
  k : K
  v : Value
  H' : Hp
noncomputable def Rec.isS (r : Rec) : Bool := match r.k with
  | .pure => false
  | _ => true
noncomputable def Rec.isA (r : Rec) : Bool := match r.k with
  | .alloc => true
  | _ => false
noncomputable def Rec.isC (r : Rec) : Bool := match r.k with
  | .chain => true
  | _ => false

noncomputable def recE (tb : Tab) (F : Fun) (ops : Array Oper) : List Oper → Tm → Hp → Nat → Option (List Rec × List Hp × Tm × Hp)
  | [], T, H, _ => some ([], [H], T, H)
  | o :: os, T, H, p => bif guardE ops T o then
      (match evL T o.op.operands.toList with
      | some vs => (match opE tb F H o.op vs with
        | some (k, v, H') => bif okV deep H'.nx v then (match T.put o.dst v with
          | some T' => (match k with
            | .pure => (match recE tb F ops os T' H p with
              | some (rs, hs, q) => some (⟨o, T, H, p, true, vs, .pure, v, H⟩ :: rs, hs, q)
              | none => none)
            | k => (match recE tb F ops os T' H' (p + 1) with
              | some (rs, hs, q) => some (⟨o, T, H, p, true, vs, k, v, H'⟩ :: rs, H :: hs, q)
              | none => none))
          | none => none) else none
        | none => none)
      | none => none)
    else (match putU ops T o with
      | some T' => (match recE tb F ops os T' H p with
        | some (rs, hs, q) => some (⟨o, T, H, p, false, [], .pure, undef, H⟩ :: rs, hs, q)
        | none => none)
      | none => none)

/-- what is known of one record -/
noncomputable def RecOk (tb : Tab) (F : Fun) (ops : Array Oper) (r : Rec) : Prop :=
  (guardE ops r.T r.o = r.w ∧ gokE ops r.T r.o = true) ∧ (r.w = true → evL r.T r.o.op.operands.toList = some r.vs ∧ opE tb F r.H r.o.op r.vs = some (r.k, r.v, r.H') ∧ okV deep r.H'.nx r.v = true) ∧
  (r.w = false → r.v = undef ∧ r.k = .pure) ∧ (r.k = .pure → r.H' = r.H) ∧ ∃ T', r.T.put r.o.dst r.v = some T'

/-- the records of a run, one behind the other -/
inductive Recs (tb : Tab) (F : Fun) (ops : Array Oper) : List Oper → Tm → Hp → Nat → List Rec → List Hp → Tm → Hp → Prop where
  | nil {T : Tm} {H : Hp} {p : Nat} : Recs tb F ops [] T H p [] [H] T H
  | still {o : Oper} {os : List Oper} {r : Rec} {rs : List Rec} {hs : List Hp} {T' T2 : Tm} {H2 : Hp} (hr : RecOk tb F ops r) (ho : r.o = o) (hk : r.k = .pure) (hp : r.T.put r.o.dst r.v = some T')
      (h : Recs tb F ops os T' r.H r.p rs hs T2 H2) : Recs tb F ops (o :: os) r.T r.H r.p (r :: rs) hs T2 H2
  | move {o : Oper} {os : List Oper} {r : Rec} {rs : List Rec} {hs : List Hp} {T' T2 : Tm} {H2 : Hp} (hr : RecOk tb F ops r) (ho : r.o = o) (hk : r.k ≠ .pure) (hp : r.T.put r.o.dst r.v = some T')
      (h : Recs tb F ops os T' r.H' (r.p + 1) rs hs T2 H2) : Recs tb F ops (o :: os) r.T r.H r.p (r :: rs) (r.H :: hs) T2 H2

theorem opE_pure {tb : Tab} {F : Fun} {H H' : Hp} {op : Op} {vs : List Value} {v : Value} (h : opE tb F H op vs = some (.pure, v, H')) : pureE tb H op vs = some v ∧ H' = H := by
  unfold opE at h
  cases hp : pureE tb H op vs with
  | some v' => rw [hp] at h; cases h; exact ⟨rfl, rfl⟩
  | none =>
    rw [hp] at h
    dsimp only at h
    cases ha : allocE tb op vs with
    | some q =>
      obtain ⟨ob, mk⟩ := q
      rw [ha] at h
      dsimp only at h
      cases hc : okO H.nx ob with
      | false => rw [hc] at h; cases h
      | true =>
        rw [hc] at h
        dsimp only [cond_true] at h
        cases hd : H.add ob <;> rw [hd] at h <;> cases h
    | none =>
      rw [ha] at h
      dsimp only at h
      cases hh : heapE tb H op vs with
      | some q => rw [hh] at h; cases h
      | none =>
        rw [hh] at h
        dsimp only at h
        cases hcl : callE op vs with
        | none => rw [hcl] at h; cases h
        | some q =>
          obtain ⟨f, args⟩ := q
          rw [hcl] at h
          dsimp only at h
          cases hg : tb.fn.get f with
          | none => rw [hg] at h; cases h
          | some g =>
            rw [hg] at h
            dsimp only at h
            cases hr : F f args H <;> rw [hr] at h <;> cases h

theorem recs_of {tb : Tab} {F : Fun} {ops : Array Oper} : ∀ (os : List Oper) (T : Tm) (H : Hp) (p : Nat) (rs : List Rec) (hs : List Hp) (T2 : Tm) (H2 : Hp),
    recE tb F ops os T H p = some (rs, hs, T2, H2) → Recs tb F ops os T H p rs hs T2 H2 := by
  intro os
  induction os with
  | nil => intro T H p rs hs T2 H2 h; cases h; exact .nil
  | cons o os ih =>
    intro T H p rs hs T2 H2 h
    simp only [recE] at h
    cases hg : guardE ops T o with
    | true =>
      rw [hg] at h
      dsimp only [cond_true] at h
      cases hvs : evL T o.op.operands.toList with
      | none => rw [hvs] at h; cases h
      | some vs =>
        rw [hvs] at h
        dsimp only at h
        cases hop : opE tb F H o.op vs with
        | none => rw [hop] at h; cases h
        | some q =>
          obtain ⟨k, v, H'⟩ := q
          rw [hop] at h
          dsimp only at h
          cases hok : okV deep H'.nx v with
          | false => rw [hok] at h; cases h
          | true =>
            rw [hok] at h
            dsimp only [cond_true] at h
            cases hp : T.put o.dst v with
            | none => rw [hp] at h; cases h
            | some T' =>
              rw [hp] at h
              dsimp only at h
              cases k with
              | pure =>
                dsimp only at h
                obtain ⟨_, rfl⟩ := opE_pure hop
                cases hr : recE tb F ops os T' H' p with
                | none => rw [hr] at h; cases h
                | some q =>
                  obtain ⟨rs', hs', T3, H3⟩ := q
                  rw [hr] at h
                  cases h
                  have hrec : RecOk tb F ops ⟨o, T, H', p, true, vs, .pure, v, H'⟩ := ⟨⟨hg, gok_of hg⟩, fun _ => ⟨hvs, hop, hok⟩, (fun e => by cases e), fun _ => rfl, T', hp⟩
                  exact Recs.still (r := ⟨o, T, H', p, true, vs, .pure, v, H'⟩) hrec rfl rfl hp (ih _ _ _ _ _ _ _ hr)
              | alloc =>
                dsimp only at h
                cases hr : recE tb F ops os T' H' (p + 1) with
                | none => rw [hr] at h; cases h
                | some q =>
                  obtain ⟨rs', hs', T3, H3⟩ := q
                  rw [hr] at h
                  cases h
                  have hrec : RecOk tb F ops ⟨o, T, H, p, true, vs, .alloc, v, H'⟩ := ⟨⟨hg, gok_of hg⟩, fun _ => ⟨hvs, hop, hok⟩, (fun e => by cases e), (fun e => by cases e), T', hp⟩
                  exact Recs.move (r := ⟨o, T, H, p, true, vs, .alloc, v, H'⟩) hrec rfl (by simp) hp (ih _ _ _ _ _ _ _ hr)
              | chain =>
                dsimp only at h
                cases hr : recE tb F ops os T' H' (p + 1) with
                | none => rw [hr] at h; cases h
                | some q =>
                  obtain ⟨rs', hs', T3, H3⟩ := q
                  rw [hr] at h
                  cases h
                  have hrec : RecOk tb F ops ⟨o, T, H, p, true, vs, .chain, v, H'⟩ := ⟨⟨hg, gok_of hg⟩, fun _ => ⟨hvs, hop, hok⟩, (fun e => by cases e), (fun e => by cases e), T', hp⟩
                  exact Recs.move (r := ⟨o, T, H, p, true, vs, .chain, v, H'⟩) hrec rfl (by simp) hp (ih _ _ _ _ _ _ _ hr)
    | false =>
      rw [hg] at h
      dsimp only [cond_false] at h
      cases hpu : putU ops T o with
      | none => rw [hpu] at h; cases h
      | some T' =>
        rw [hpu] at h
        dsimp only at h
        have hp := (putU_some hpu).2
        cases hr : recE tb F ops os T' H p with
        | none => rw [hr] at h; cases h
        | some q =>
          obtain ⟨rs', hs', T3, H3⟩ := q
          rw [hr] at h
          cases h
          have hrec : RecOk tb F ops ⟨o, T, H, p, false, [], .pure, undef, H⟩ := ⟨⟨hg, (putU_some hpu).1⟩, (fun e => by cases e), fun _ => ⟨rfl, rfl⟩, fun _ => rfl, T', hp⟩
          exact Recs.still (r := ⟨o, T, H, p, false, [], .pure, undef, H⟩) hrec rfl rfl hp (ih _ _ _ _ _ _ _ hr)

section
variable {tb : Tab} {F : Fun} {ops : Array Oper}

theorem Recs.len {os : List Oper} {T T2 : Tm} {H H2 : Hp} {p : Nat} {rs : List Rec} {hs : List Hp} (h : Recs tb F ops os T H p rs hs T2 H2) : rs.length = os.length := by
  induction h with
  | nil => rfl
  | still _ _ _ _ _ ih => simp [ih]
  | move _ _ _ _ _ ih => simp [ih]
theorem Recs.get {os : List Oper} {T T2 : Tm} {H H2 : Hp} {p : Nat} {rs : List Rec} {hs : List Hp} (h : Recs tb F ops os T H p rs hs T2 H2) : ∀ (i : Nat) (r : Rec), rs[i]? = some r → RecOk tb F ops r ∧ os[i]? = some r.o := by
  induction h with
  | nil => intro i r hr; simp at hr
  | still hr ho _ _ _ ih =>
    intro i r hi
    cases i with
    | zero => simp at hi; subst hi; exact ⟨hr, by simp [ho]⟩
    | succ i => exact ih i r (by simpa using hi)
  | move hr ho _ _ _ ih =>
    intro i r hi
    cases i with
    | zero => simp at hi; subst hi; exact ⟨hr, by simp [ho]⟩
    | succ i => exact ih i r (by simpa using hi)
/-- where a record stands among what is done in memory -/
theorem Recs.pos {os : List Oper} {T T2 : Tm} {H H2 : Hp} {p : Nat} {rs : List Rec} {hs : List Hp} (h : Recs tb F ops os T H p rs hs T2 H2) :
    0 < hs.length ∧ hs[0]? = some H ∧ hs[hs.length - 1]? = some H2 ∧
    (∀ (i : Nat) (r : Rec), rs[i]? = some r → p ≤ r.p ∧ hs[r.p - p]? = some r.H ∧ (r.k ≠ .pure → hs[r.p + 1 - p]? = some r.H')) ∧
    (∀ q, p ≤ q → q + 1 < p + hs.length → ∃ (i : Nat) (r : Rec), rs[i]? = some r ∧ r.k ≠ .pure ∧ r.p = q) := by
  induction h with
  | nil => exact ⟨by simp, rfl, rfl, fun i r hr => by simp at hr, fun q h1 h2 => by simp at h2; omega⟩
  | still hr ho hk hp h ih =>
    obtain ⟨i1, i2, i3, i4, i5⟩ := ih
    refine ⟨i1, i2, i3, ?_, ?_⟩
    · intro i r hi
      cases i with
      | zero =>
        simp at hi; subst hi
        exact ⟨Nat.le_refl _, by simpa using i2, fun e => absurd hk e⟩
      | succ i => exact i4 i r (by simpa using hi)
    · intro q h1 h2
      obtain ⟨i, r, a, b, c⟩ := i5 q h1 h2
      exact ⟨i + 1, r, by simpa using a, b, c⟩
  | move hr ho hk hp h ih =>
    rename_i o os r rs hs T' T2 H2
    obtain ⟨i1, i2, i3, i4, i5⟩ := ih
    refine ⟨by simp, rfl, ?_, ?_, ?_⟩
    · simp only [List.length_cons, Nat.add_sub_cancel]
      rw [List.getElem?_cons, if_neg (by omega)]
      exact i3
    · intro i r' hi
      cases i with
      | zero =>
        simp at hi; subst hi
        refine ⟨Nat.le_refl _, by simp, fun _ => ?_⟩
        rw [Nat.add_sub_cancel_left]
        simpa using i2
      | succ i =>
        obtain ⟨a, b, c⟩ := i4 i r' (by simpa using hi)
        refine ⟨by omega, ?_, fun e => ?_⟩
        · rw [show r'.p - r.p = r'.p - (r.p + 1) + 1 by omega, List.getElem?_cons_succ]
          exact b
        · rw [show r'.p + 1 - r.p = r'.p + 1 - (r.p + 1) + 1 by omega, List.getElem?_cons_succ]
          exact c e
    · intro q h1 h2
      by_cases e : q = r.p
      · exact ⟨0, r, rfl, hk, e.symm⟩
      · obtain ⟨i, r', a, b, c⟩ := i5 q (by omega) (by simp at h2; omega)
        exact ⟨i + 1, r', by simpa using a, b, c⟩
theorem Recs.order {os : List Oper} {T T2 : Tm} {H H2 : Hp} {p : Nat} {rs : List Rec} {hs : List Hp} (h : Recs tb F ops os T H p rs hs T2 H2) :
    ∀ (i i' : Nat) (r r' : Rec), i < i' → rs[i]? = some r → rs[i']? = some r' → r.p ≤ r'.p ∧ (r.k ≠ .pure → r.p < r'.p) := by
  induction h with
  | nil => intro i i' r r' _ hr; simp at hr
  | still hr ho hk hp h ih =>
    intro i i' r1 r2 hlt h1 h2
    obtain ⟨i', rfl⟩ : ∃ k, i' = k + 1 := ⟨i' - 1, by omega⟩
    cases i with
    | zero =>
      simp at h1; subst h1
      have := (h.pos.2.2.2.1 i' r2 (by simpa using h2)).1
      exact ⟨this, fun e => absurd hk e⟩
    | succ i => exact ih i i' r1 r2 (by omega) (by simpa using h1) (by simpa using h2)
  | move hr ho hk hp h ih =>
    intro i i' r1 r2 hlt h1 h2
    obtain ⟨i', rfl⟩ : ∃ k, i' = k + 1 := ⟨i' - 1, by omega⟩
    cases i with
    | zero =>
      simp at h1; subst h1
      have := (h.pos.2.2.2.1 i' r2 (by simpa using h2)).1
      exact ⟨by omega, fun _ => by omega⟩
    | succ i => exact ih i i' r1 r2 (by omega) (by simpa using h1) (by simpa using h2)
/-- the temporaries ahead of a record, and behind all -/
theorem Recs.tmps {os : List Oper} {T T2 : Tm} {H H2 : Hp} {p : Nat} {rs : List Rec} {hs : List Hp} (h : Recs tb F ops os T H p rs hs T2 H2) :
    (∀ (i : Nat) (r : Rec) (t : Tmp), rs[i]? = some r → (∀ (i' : Nat) (r' : Rec), i' < i → rs[i']? = some r' → r'.o.dst ≠ some t) → r.T.at t = T.at t) ∧
    (∀ (i : Nat) (r : Rec) (t : Tmp) (i' : Nat) (r' : Rec), rs[i]? = some r → i' < i → rs[i']? = some r' → r'.o.dst = some t → (∀ (i'' : Nat) (r'' : Rec), i' < i'' → i'' < i → rs[i'']? = some r'' → r''.o.dst ≠ some t) → r.T.at t = r'.v) ∧
    (∀ (t : Tmp), (∀ (i' : Nat) (r' : Rec), rs[i']? = some r' → r'.o.dst ≠ some t) → T2.at t = T.at t) ∧
    (∀ (t : Tmp) (i' : Nat) (r' : Rec), rs[i']? = some r' → r'.o.dst = some t → (∀ (i'' : Nat) (r'' : Rec), i' < i'' → rs[i'']? = some r'' → r''.o.dst ≠ some t) → T2.at t = r'.v) ∧
    (∀ (i : Nat) (r : Rec), rs[i]? = some r → r.T.n = T.n) ∧ T2.n = T.n := by
  have put_at : ∀ (r : Rec) (T' : Tm), r.T.put r.o.dst r.v = some T' → T'.n = r.T.n ∧ (∀ t, r.o.dst ≠ some t → T'.at t = r.T.at t) ∧ ∀ t, r.o.dst = some t → T'.at t = r.v := by
    intro r T' hp
    cases hd : r.o.dst with
    | none => rw [hd] at hp; cases hp; exact ⟨rfl, fun _ _ => rfl, fun _ e => by cases e⟩
    | some d =>
      rw [hd] at hp
      obtain ⟨a, _, c⟩ := Tm.at_put hp
      refine ⟨a, fun t ht => ?_, fun t ht => ?_⟩
      · rw [c, if_neg (fun e => ht (by rw [e]))]
      · cases ht; rw [c, if_pos rfl]
  induction h with
  | nil => exact ⟨fun i r t hr => by simp at hr, fun i r t i' r' hr => by simp at hr, fun _ _ => rfl, fun t i' r' hr => by simp at hr, fun i r hr => by simp at hr, rfl⟩
  | still hr ho hk hp h ih =>
    obtain ⟨a, b, c, d, e, f⟩ := ih
    obtain ⟨p0, p1, p2⟩ := put_at _ _ hp
    refine ⟨?_, ?_, ?_, ?_, ?_, f.trans p0⟩
    · intro i r' t hi hn
      cases i with
      | zero => simp at hi; subst hi; rfl
      | succ i =>
        rw [a i r' t (by simpa using hi) (fun i' r'' hlt hi' => hn (i' + 1) r'' (by omega) (by simpa using hi'))]
        exact p1 t (hn 0 _ (by omega) rfl)
    · intro i r' t i' r'' hi hlt hi' hd hn
      obtain ⟨i, rfl⟩ : ∃ k, i = k + 1 := ⟨i - 1, by omega⟩
      cases i' with
      | zero =>
        simp at hi'; subst hi'
        rw [a i r' t (by simpa using hi) (fun i'' r3 hlt' hi'' => hn (i'' + 1) r3 (by omega) (by omega) (by simpa using hi''))]
        exact p2 t hd
      | succ i' => exact b i r' t i' r'' (by simpa using hi) (by omega) (by simpa using hi') hd (fun i'' r3 h1 h2 h3 => hn (i'' + 1) r3 (by omega) (by omega) (by simpa using h3))
    · intro t hn
      rw [c t (fun i' r' hi' => hn (i' + 1) r' (by simpa using hi'))]
      exact p1 t (hn 0 _ rfl)
    · intro t i' r' hi' hd hn
      cases i' with
      | zero =>
        simp at hi'; subst hi'
        rw [c t (fun i'' r'' hi'' => hn (i'' + 1) r'' (by omega) (by simpa using hi''))]
        exact p2 t hd
      | succ i' => exact d t i' r' (by simpa using hi') hd (fun i'' r'' h1 h2 => hn (i'' + 1) r'' (by omega) (by simpa using h2))
    · intro i r' hi
      cases i with
      | zero => simp at hi; subst hi; rfl
      | succ i => exact (e i r' (by simpa using hi)).trans p0
  | move hr ho hk hp h ih =>
    obtain ⟨a, b, c, d, e, f⟩ := ih
    obtain ⟨p0, p1, p2⟩ := put_at _ _ hp
    refine ⟨?_, ?_, ?_, ?_, ?_, f.trans p0⟩
    · intro i r' t hi hn
      cases i with
      | zero => simp at hi; subst hi; rfl
      | succ i =>
        rw [a i r' t (by simpa using hi) (fun i' r'' hlt hi' => hn (i' + 1) r'' (by omega) (by simpa using hi'))]
        exact p1 t (hn 0 _ (by omega) rfl)
    · intro i r' t i' r'' hi hlt hi' hd hn
      obtain ⟨i, rfl⟩ : ∃ k, i = k + 1 := ⟨i - 1, by omega⟩
      cases i' with
      | zero =>
        simp at hi'; subst hi'
        rw [a i r' t (by simpa using hi) (fun i'' r3 hlt' hi'' => hn (i'' + 1) r3 (by omega) (by omega) (by simpa using hi''))]
        exact p2 t hd
      | succ i' => exact b i r' t i' r'' (by simpa using hi) (by omega) (by simpa using hi') hd (fun i'' r3 h1 h2 h3 => hn (i'' + 1) r3 (by omega) (by omega) (by simpa using h3))
    · intro t hn
      rw [c t (fun i' r' hi' => hn (i' + 1) r' (by simpa using hi'))]
      exact p1 t (hn 0 _ rfl)
    · intro t i' r' hi' hd hn
      cases i' with
      | zero =>
        simp at hi'; subst hi'
        rw [c t (fun i'' r'' hi'' => hn (i'' + 1) r'' (by omega) (by simpa using hi''))]
        exact p2 t hd
      | succ i' => exact d t i' r' (by simpa using hi') hd (fun i'' r'' h1 h2 => hn (i'' + 1) r'' (by omega) (by simpa using h2))
    · intro i r' hi
      cases i with
      | zero => simp at hi; subst hi; rfl
      | succ i => exact (e i r' (by simpa using hi)).trans p0
end
end Go.Proofs.Ytnjfbcoddbeggaa.Sx
