/-
  Runs of closed code, told by a function on data that the kernel works out: memory with names in the place of blocks.
-/
import Derived.Orders
import Derived.LoopN
import Derived.Below
import Derived.Laws.Sem
import Derived.ProofKit
namespace Go.Proofs.Ytnjfbcoddbeggaa.Sx
/-- what stands for itself: numbers; values that lie outside, each in one cell; blocks outside that nothing turns -/
structure Sg where
  n : Nat → Int
  v : Nat → Value
  x : List (Nat × Obj)
  one : ∀ i, (v i).cells = #[v i]
  cell : ∀ i, (v i).oneCell' = true
variable {σ : Sg}

/-! ### Tables by number -/
inductive Tr (α : Type) where
  | nil
  | node (l : Tr α) (v : Option α) (r : Tr α)

/- written with the recursors themselves: the kernel is quick with these -/
noncomputable def Tr.get {α : Type} (t : Tr α) : Nat → Option α :=
  Tr.rec (motive := fun _ => Nat → Option α) (fun _ => none)
    (fun _ v _ gl gr k => Nat.rec (motive := fun _ => Option α) v
      (fun k _ => Bool.rec (motive := fun _ => Option α) (gr (Nat.div k 2)) (gl (Nat.div k 2)) (Nat.beq (Nat.mod k 2) 0)) k) t
theorem Tr.get_nil {α : Type} (k : Nat) : (Tr.nil : Tr α).get k = none := rfl
theorem Tr.node_zero {α : Type} (l : Tr α) (v : Option α) (r : Tr α) : (Tr.node l v r).get 0 = v := rfl
theorem Tr.node_succ {α : Type} (l : Tr α) (v : Option α) (r : Tr α) (k : Nat) : (Tr.node l v r).get (k + 1) = bif Nat.beq (k % 2) 0 then l.get (k / 2) else r.get (k / 2) := by
  show Bool.rec (motive := fun _ => Option α) (r.get (k / 2)) (l.get (k / 2)) (Nat.beq (k % 2) 0) = _
  cases Nat.beq (k % 2) 0 <;> rfl

noncomputable def Tr.lv {α : Type} : Tr α → Tr α
  | .nil => .nil
  | .node l _ _ => l
noncomputable def Tr.vv {α : Type} : Tr α → Option α
  | .nil => none
  | .node _ v _ => v
noncomputable def Tr.rv {α : Type} : Tr α → Tr α
  | .nil => .nil
  | .node _ _ r => r

noncomputable def Tr.sl {α : Type} (v : Option α) (r : Tr α) (o : Option (Tr α)) : Option (Tr α) := Option.rec (motive := fun _ => Option (Tr α)) none (fun l => some (.node l v r)) o
noncomputable def Tr.sr {α : Type} (l : Tr α) (v : Option α) (o : Option (Tr α)) : Option (Tr α) := Option.rec (motive := fun _ => Option (Tr α)) none (fun r => some (.node l v r)) o
noncomputable def Tr.put {α : Type} (f : Nat) : Tr α → Nat → Option α → Option (Tr α) :=
  Nat.rec (motive := fun _ => Tr α → Nat → Option α → Option (Tr α)) (fun _ _ _ => none)
    (fun _ ih t k v => Tr.rec (motive := fun _ => Option (Tr α))
      (Nat.rec (motive := fun _ => Option (Tr α)) (some (.node .nil v .nil)) (fun k _ => Bool.rec (motive := fun _ => Option (Tr α)) (Tr.sr .nil none (ih .nil (Nat.div k 2) v)) (Tr.sl none .nil (ih .nil (Nat.div k 2) v)) (Nat.beq (Nat.mod k 2) 0)) k)
      (fun l x r _ _ => Nat.rec (motive := fun _ => Option (Tr α)) (some (.node l v r)) (fun k _ => Bool.rec (motive := fun _ => Option (Tr α)) (Tr.sr l x (ih r (Nat.div k 2) v)) (Tr.sl x r (ih l (Nat.div k 2) v)) (Nat.beq (Nat.mod k 2) 0)) k) t) f
theorem Tr.put_zero {α : Type} (t : Tr α) (k : Nat) (v : Option α) : Tr.put 0 t k v = none := rfl
theorem Tr.put_at {α : Type} (f : Nat) (t : Tr α) (v : Option α) : Tr.put (f + 1) t 0 v = some (.node t.lv v t.rv) := by cases t <;> rfl
theorem Tr.put_succ {α : Type} (f : Nat) (t : Tr α) (k : Nat) (v : Option α) : Tr.put (f + 1) t (k + 1) v = bif Nat.beq (k % 2) 0 then
        (match Tr.put f t.lv (k / 2) v with
        | some l => some (.node l t.vv t.rv)
        | none => none)
      else
        (match Tr.put f t.rv (k / 2) v with
        | some r => some (.node t.lv t.vv r)
        | none => none) := by
  cases t with
  | nil =>
    show Bool.rec (motive := fun _ => Option (Tr α)) (Tr.sr .nil none (Tr.put f .nil (k / 2) v)) (Tr.sl none .nil (Tr.put f .nil (k / 2) v)) (Nat.beq (k % 2) 0) = _
    cases Nat.beq (k % 2) 0
    · show Tr.sr .nil none (Tr.put f .nil (k / 2) v) = (match Tr.put f .nil (k / 2) v with | some r => some (.node .nil none r) | none => none)
      cases Tr.put f .nil (k / 2) v <;> rfl
    · show Tr.sl none .nil (Tr.put f .nil (k / 2) v) = (match Tr.put f .nil (k / 2) v with | some r => some (.node r none .nil) | none => none)
      cases Tr.put f .nil (k / 2) v <;> rfl
  | node l x r =>
    show Bool.rec (motive := fun _ => Option (Tr α)) (Tr.sr l x (Tr.put f r (k / 2) v)) (Tr.sl x r (Tr.put f l (k / 2) v)) (Nat.beq (k % 2) 0) = _
    cases Nat.beq (k % 2) 0
    · show Tr.sr l x (Tr.put f r (k / 2) v) = (match Tr.put f r (k / 2) v with | some r => some (.node l x r) | none => none)
      cases Tr.put f r (k / 2) v <;> rfl
    · show Tr.sl x r (Tr.put f l (k / 2) v) = (match Tr.put f l (k / 2) v with | some l => some (.node l x r) | none => none)
      cases Tr.put f l (k / 2) v <;> rfl

theorem Tr.get_zero {α : Type} (t : Tr α) : t.get 0 = t.vv := by cases t <;> rfl
theorem Tr.get_succ {α : Type} (t : Tr α) (k : Nat) : t.get (k + 1) = bif Nat.beq (k % 2) 0 then t.lv.get (k / 2) else t.rv.get (k / 2) := by
  cases t with
  | nil => simp [Tr.get_nil, Tr.lv, Tr.rv]
  | node l v r => rw [Tr.node_succ]; rfl

theorem Tr.get_put {α : Type} : ∀ (f : Nat) (t t' : Tr α) (k : Nat) (v : Option α), Tr.put f t k v = some t' → ∀ j, t'.get j = if j = k then v else t.get j := by
  intro f
  induction f with
  | zero => intro t t' k v h; rw [Tr.put_zero] at h; cases h
  | succ f ih =>
    intro t t' k v h j
    cases k with
    | zero =>
      rw [Tr.put_at] at h
      simp only [Option.some.injEq] at h
      subst h
      cases j with
      | zero => simp [Tr.get_zero, Tr.vv]
      | succ j => simp [Tr.get_succ, Tr.lv, Tr.rv]
    | succ k =>
      rw [Tr.put_succ] at h
      cases hb : Nat.beq (k % 2) 0 with
      | true =>
        rw [hb] at h
        simp only [cond_true] at h
        cases hl : Tr.put f t.lv (k / 2) v with
        | none => rw [hl] at h; cases h
        | some l =>
          rw [hl] at h
          cases h
          have hi := ih _ _ _ _ hl
          cases j with
          | zero => simp [Tr.get_zero, Tr.vv]
          | succ j =>
            rw [Tr.get_succ, Tr.get_succ]
            cases hj : Nat.beq (j % 2) 0 with
            | true =>
              simp only [Tr.lv, cond_true]
              have h1 := Nat.eq_of_beq_eq_true hb
              have h2 := Nat.eq_of_beq_eq_true hj
              rw [hi]
              by_cases e : j / 2 = k / 2
              · rw [if_pos e, if_pos (by omega)]
              · rw [if_neg e, if_neg (by omega)]; rfl
            | false =>
              simp only [Tr.rv, cond_false]
              have h1 := Nat.eq_of_beq_eq_true hb
              have h2 := Nat.ne_of_beq_eq_false hj
              rw [if_neg (by omega)]
      | false =>
        rw [hb] at h
        simp only [cond_false] at h
        cases hl : Tr.put f t.rv (k / 2) v with
        | none => rw [hl] at h; cases h
        | some l =>
          rw [hl] at h
          cases h
          have hi := ih _ _ _ _ hl
          cases j with
          | zero => simp [Tr.get_zero, Tr.vv]
          | succ j =>
            rw [Tr.get_succ, Tr.get_succ]
            cases hj : Nat.beq (j % 2) 0 with
            | true =>
              simp only [Tr.lv, cond_true]
              have h1 := Nat.ne_of_beq_eq_false hb
              have h2 := Nat.eq_of_beq_eq_true hj
              rw [if_neg (by omega)]
            | false =>
              simp only [Tr.rv, cond_false]
              have h1 := Nat.ne_of_beq_eq_false hb
              have h2 := Nat.ne_of_beq_eq_false hj
              rw [hi]
              by_cases e : j / 2 = k / 2
              · rw [if_pos e, if_pos (by omega)]
              · rw [if_neg e, if_neg (by omega)]; rfl

/-- a list of numbered things as a table -/
noncomputable def Tr.ofL {α : Type} : List (Nat × α) → Tr α
  | [] => .nil
  | (k, x) :: r => match Tr.put 40 (Tr.ofL r) k (some x) with
    | some t => t
    | none => .nil
theorem Tr.get_ofL {α : Type} : ∀ (l : List (Nat × α)) (k : Nat) (x : α), (Tr.ofL l).get k = some x → (k, x) ∈ l := by
  intro l
  induction l with
  | nil => intro k x h; rw [Tr.ofL, Tr.get_nil] at h; cases h
  | cons p r ih =>
    obtain ⟨k0, x0⟩ := p
    intro k x h
    simp only [Tr.ofL] at h
    split at h
    · rename_i t ht
      rw [Tr.get_put _ _ _ _ _ ht] at h
      by_cases e : k = k0
      · rw [if_pos e] at h
        cases h
        subst e
        exact List.mem_cons_self
      · rw [if_neg e] at h
        exact List.mem_cons_of_mem _ (ih _ _ h)
    · rw [Tr.get_nil] at h; cases h

theorem Tr.get_of_eq {α : Type} {T : Tr α} {l : List (Nat × α)} (e : T = Tr.ofL l) {k : Nat} {x : α} (h : T.get k = some x) : (k, x) ∈ l := by
  subst e
  exact Tr.get_ofL l k x h

/-! ### Values with names -/
structure Env where
  blk : Nat → Nat
  cap : Nat → Nat

/-- a slice's capacity: even numbers tell it, odd ones how much lies ahead of it in a row whose length is open -/
noncomputable def capOf (E : Env) (b cap : Nat) : Nat := if cap % 2 = 0 then cap / 2 else E.cap b - cap / 2

noncomputable def den (σ : Sg) (E : Env) : Value → Value
  | .pointer (some a) => .pointer (some ⟨E.blk a.block, a.off, a.spot⟩)
  | .slice (some a) len cap => .slice (some ⟨E.blk a.block, a.off, a.spot⟩) len (capOf E a.block cap)
  | .map (some r) => .map (some (E.blk r))
  | .func fn first captured => .func fn (first.map (den σ E)) (captured.map (den σ E))
  | .iface t v => .iface t (den σ E v)
  | .agg cs => .agg (cs.map (den σ E))
  | .tuple cs => .tuple (cs.map (den σ E))
  | .float .f64 i => .int .i64 (σ.n i)
  | .float .f32 i => σ.v i
  | v => v

theorem den_agg (E : Env) (cs : Array Value) : den σ E (.agg cs) = .agg (cs.map (den σ E)) := by rw [den]
theorem den_tuple (E : Env) (cs : Array Value) : den σ E (.tuple cs) = .tuple (cs.map (den σ E)) := by rw [den]
theorem den_iface (E : Env) (t : TypeId) (v : Value) : den σ E (.iface t v) = .iface t (den σ E v) := by rw [den]
theorem den_func (E : Env) (fn : Fn) (a b : Array Value) : den σ E (.func fn a b) = .func fn (a.map (den σ E)) (b.map (den σ E)) := by rw [den]
theorem den_pointer (E : Env) (a : Addr) : den σ E (.pointer (some a)) = .pointer (some ⟨E.blk a.block, a.off, a.spot⟩) := by rw [den]
theorem den_slice (E : Env) (a : Addr) (l c : Nat) : den σ E (.slice (some a) l c) = .slice (some ⟨E.blk a.block, a.off, a.spot⟩) l (capOf E a.block c) := by rw [den]
theorem den_map (E : Env) (r : Nat) : den σ E (.map (some r)) = .map (some (E.blk r)) := by rw [den]
theorem den_int (E : Env) (k : IntKind) (n : Int) : den σ E (.int k n) = .int k n := by rw [den] <;> simp
theorem den_bool (E : Env) (b : Bool) : den σ E (.bool b) = .bool b := by rw [den] <;> simp
theorem den_string (E : Env) (s : ByteArray) : den σ E (.string s) = .string s := by rw [den] <;> simp
theorem den_pnil (E : Env) : den σ E (.pointer none) = .pointer none := by rw [den] <;> simp
theorem den_snil (E : Env) (l c : Nat) : den σ E (.slice none l c) = .slice none l c := by rw [den] <;> simp
theorem den_mnil (E : Env) : den σ E (.map none) = .map none := by rw [den] <;> simp
theorem den_sym (E : Env) (i : Nat) : den σ E (.float .f64 i) = .int .i64 (σ.n i) := by rw [den]
theorem den_opq (E : Env) (i : Nat) : den σ E (.float .f32 i) = σ.v i := by rw [den]
theorem den_nilIface (E : Env) : den σ E .nilIface = .nilIface := by rw [den] <;> simp
theorem den_nilFunc (E : Env) : den σ E .nilFunc = .nilFunc := by rw [den] <;> simp
theorem den_cells (E : Env) (v : Value) : (den σ E v).cells = v.cells.map (den σ E) := by
  cases v with
  | agg cs => rw [den_agg]; rfl
  | pointer a => cases a <;> simp [den, Value.cells]
  | slice a l c => cases a <;> simp [den, Value.cells]
  | map r => cases r <;> simp [den, Value.cells]
  | float k b =>
    cases k with
    | f64 => simp [den, Value.cells]
    | f32 => rw [den_opq, σ.one]; simp [Value.cells, den]
  | _ => simp [den, Value.cells]

noncomputable def isFn : Fn → Bool
  | .func _ => true
  | _ => false
/-- all names lie below n; nothing is nested more than f deep -/
noncomputable def okV : Nat → Nat → Value → Bool
  | 0, _, _ => false
  | f + 1, n, v => match v with
    | .pointer (some a) => Nat.blt a.block n && a.spot.isNone
    | .slice (some a) _ _ => Nat.blt a.block n && a.spot.isNone
    | .map (some r) => Nat.blt r n
    | .chan _ => false
    | .float k _ => (match k with
      | .f64 => Nat.blt 0 n
      | .f32 => Nat.blt 0 n)
    | .complex _ _ _ => false
    | .func fn first captured => isFn fn && first.toList.all (okV f n) && captured.toList.all (okV f n)
    | .iface _ v => okV f n v
    | .agg cs => cs.toList.all (okV f n)
    | .tuple cs => cs.toList.all (okV f n)
    | _ => true

theorem okV_func (f n : Nat) (fn : Fn) (a b : Array Value) : okV (f + 1) n (.func fn a b) = (isFn fn && a.toList.all (okV f n) && b.toList.all (okV f n)) := rfl
theorem okV_iface (f n : Nat) (t : TypeId) (v : Value) : okV (f + 1) n (.iface t v) = okV f n v := rfl
theorem okV_agg (f n : Nat) (a : Array Value) : okV (f + 1) n (.agg a) = a.toList.all (okV f n) := rfl
theorem okV_tuple (f n : Nat) (a : Array Value) : okV (f + 1) n (.tuple a) = a.toList.all (okV f n) := rfl
noncomputable def Env.Ext (n : Nat) (E E' : Env) : Prop := ∀ b, b < n → E'.blk b = E.blk b ∧ E'.cap b = E.cap b
theorem Env.Ext.refl (n : Nat) (E : Env) : Env.Ext n E E := fun _ _ => ⟨rfl, rfl⟩
theorem Env.Ext.trans {n m : Nat} {E E' E'' : Env} (h : Env.Ext n E E') (k : Env.Ext m E' E'') (hn : n ≤ m) : Env.Ext n E E'' :=
  fun b hb => ⟨(k b (by omega)).1.trans (h b hb).1, (k b (by omega)).2.trans (h b hb).2⟩

theorem den_ext {E E' : Env} {n : Nat} (h : Env.Ext n E E') : ∀ (f : Nat) (v : Value), okV f n v = true → den σ E' v = den σ E v := by
  intro f
  induction f with
  | zero => intro v hv; simp [okV] at hv
  | succ f ih =>
    have hmap : ∀ cs : Array Value, cs.toList.all (okV f n) = true → cs.map (den σ E') = cs.map (den σ E) := by
      intro cs hc
      refine Array.map_congr_left fun x hx => ih x ?_
      exact List.all_eq_true.1 hc x (Array.mem_toList_iff.2 hx)
    intro v hv
    cases v with
    | pointer a =>
      cases a with
      | none => simp [den_pnil]
      | some a =>
        simp only [okV, Bool.and_eq_true, Nat.blt_eq] at hv
        rw [den_pointer, den_pointer, (h _ hv.1).1]
    | slice a l c =>
      cases a with
      | none => simp [den_snil]
      | some a =>
        simp only [okV, Bool.and_eq_true, Nat.blt_eq] at hv
        rw [den_slice, den_slice, (h _ hv.1).1, capOf, capOf, (h _ hv.1).2]
    | map r =>
      cases r with
      | none => simp [den_mnil]
      | some r =>
        simp only [okV, Nat.blt_eq] at hv
        rw [den_map, den_map, (h _ hv).1]
    | func fn a b =>
      simp only [okV, Bool.and_eq_true] at hv
      rw [den_func, den_func, hmap _ hv.1.2, hmap _ hv.2]
    | iface t v =>
      simp only [okV] at hv
      rw [den_iface, den_iface, ih _ hv]
    | agg cs =>
      simp only [okV] at hv
      rw [den_agg, den_agg, hmap _ hv]
    | tuple cs =>
      simp only [okV] at hv
      rw [den_tuple, den_tuple, hmap _ hv]
    | float k b => cases k <;> simp [den]
    | _ => simp [den]

/-- without names a value is what it is -/
theorem den_plain (E : Env) : ∀ (f : Nat) (v : Value), okV f 0 v = true → den σ E v = v := by
  intro f
  induction f with
  | zero => intro v hv; simp [okV] at hv
  | succ f ih =>
    have hmap : ∀ cs : Array Value, cs.toList.all (okV f 0) = true → cs.map (den σ E) = cs := by
      intro cs hc
      conv => rhs; rw [← Array.map_id cs]
      refine Array.map_congr_left fun x hx => ?_
      exact ih x (List.all_eq_true.1 hc x (Array.mem_toList_iff.2 hx))
    intro v hv
    cases v with
    | pointer a =>
      cases a with
      | none => simp [den_pnil]
      | some a => simp [okV] at hv
    | slice a l c =>
      cases a with
      | none => simp [den_snil]
      | some a => simp [okV] at hv
    | map r =>
      cases r with
      | none => simp [den_mnil]
      | some r => simp [okV] at hv
    | func fn a b =>
      simp only [okV, Bool.and_eq_true] at hv
      rw [den_func, hmap _ hv.1.2, hmap _ hv.2]
    | iface t v =>
      simp only [okV] at hv
      rw [den_iface, ih _ hv]
    | agg cs =>
      simp only [okV] at hv
      rw [den_agg, hmap _ hv]
    | tuple cs =>
      simp only [okV] at hv
      rw [den_tuple, hmap _ hv]
    | float k b => cases k <;> simp [okV, Nat.blt] at hv
    | _ => simp [den]

theorem okV_mono {n m : Nat} (hnm : n ≤ m) : ∀ (f : Nat) (v : Value), okV f n v = true → okV f m v = true := by
  intro f
  induction f with
  | zero => intro v hv; simp [okV] at hv
  | succ f ih =>
    have hall : ∀ cs : Array Value, cs.toList.all (okV f n) = true → cs.toList.all (okV f m) = true := by
      intro cs hc
      rw [List.all_eq_true] at *
      exact fun x hx => ih x (hc x hx)
    intro v hv
    cases v with
    | pointer a =>
      cases a with
      | none => rfl
      | some a =>
        simp only [okV, Bool.and_eq_true, Nat.blt_eq] at *
        exact ⟨by omega, hv.2⟩
    | slice a l c =>
      cases a with
      | none => rfl
      | some a =>
        simp only [okV, Bool.and_eq_true, Nat.blt_eq] at *
        exact ⟨by omega, hv.2⟩
    | map r =>
      cases r with
      | none => rfl
      | some r => simp only [okV, Nat.blt_eq] at *; omega
    | func fn a b =>
      simp only [okV, Bool.and_eq_true] at *
      exact ⟨⟨hv.1.1, hall _ hv.1.2⟩, hall _ hv.2⟩
    | iface t v => simp only [okV] at *; exact ih _ hv
    | agg cs => simp only [okV] at *; exact hall _ hv
    | tuple cs => simp only [okV] at *; exact hall _ hv
    | float k b =>
      cases k with
      | f64 =>
        have h1 : Nat.blt 0 n = true := hv
        show Nat.blt 0 m = true
        rw [Nat.blt_eq] at *
        omega
      | f32 =>
        have h1 : Nat.blt 0 n = true := hv
        show Nat.blt 0 m = true
        rw [Nat.blt_eq] at *
        omega
    | _ => simp_all [okV]

theorem okV_up {n : Nat} : ∀ (f : Nat) (v : Value), okV f n v = true → okV (f + 1) n v = true := by
  intro f
  induction f with
  | zero => intro v hv; simp [okV] at hv
  | succ f ih =>
    have hall : ∀ cs : Array Value, cs.toList.all (okV f n) = true → cs.toList.all (okV (f + 1) n) = true := by
      intro cs hc
      rw [List.all_eq_true] at *
      exact fun x hx => ih x (hc x hx)
    intro v hv
    cases v with
    | pointer a => cases a <;> exact hv
    | slice a l c => cases a <;> exact hv
    | map r => cases r <;> exact hv
    | func fn a b =>
      rw [okV_func f] at hv
      rw [okV_func (f + 1)]
      simp only [Bool.and_eq_true] at hv ⊢
      exact ⟨⟨hv.1.1, hall _ hv.1.2⟩, hall _ hv.2⟩
    | iface t v =>
      rw [okV_iface f] at hv
      rw [okV_iface (f + 1)]
      exact ih _ hv
    | agg cs =>
      rw [okV_agg f] at hv
      rw [okV_agg (f + 1)]
      exact hall _ hv
    | tuple cs =>
      rw [okV_tuple f] at hv
      rw [okV_tuple (f + 1)]
      exact hall _ hv
    | _ => exact hv

/-! ### Memory by names -/
inductive AO where
  | cells (c : List Value) (flex : Option Nat) (elem : TypeId)
  | map (es : List MapEntry) (clock : Nat)
  | iter (m : Option Nat) (since : Nat) (seen : List Nat) (last : Nat)

structure Hp where
  tr : Tr AO
  nx : Nat

noncomputable def deep : Nat := 6
noncomputable def okE (n : Nat) (e : MapEntry) : Bool := okV deep n e.key && okV deep n e.val
noncomputable def okO (n : Nat) : AO → Bool
  | .cells c _ _ => c.all (okV deep n)
  | .map es _ => es.all (okE n)
  | .iter m _ _ _ => (match m with
    | none => true
    | some r => Nat.blt r n)

noncomputable def Hp.get (H : Hp) (b : Nat) : Option AO := H.tr.get b
noncomputable def Hp.put (H : Hp) (b : Nat) (o : Option AO) : Option Hp := match Tr.put 40 H.tr b o with
  | some t => some ⟨t, H.nx⟩
  | none => none
/-- a new block: its name is the old 'nx' -/
noncomputable def Hp.add (H : Hp) (o : AO) : Option Hp := match Tr.put 40 H.tr H.nx (some o) with
  | some t => some ⟨t, H.nx + 1⟩
  | none => none

theorem Hp.get_put {H H' : Hp} {b : Nat} {o : Option AO} (h : H.put b o = some H') : H'.nx = H.nx ∧ ∀ j, H'.get j = if j = b then o else H.get j := by
  unfold Hp.put at h
  split at h
  · rename_i t ht
    cases h
    exact ⟨rfl, Tr.get_put _ _ _ _ _ ht⟩
  · cases h
theorem Hp.get_add {H H' : Hp} {o : AO} (h : H.add o = some H') : H'.nx = H.nx + 1 ∧ ∀ j, H'.get j = if j = H.nx then some o else H.get j := by
  unfold Hp.add at h
  split at h
  · rename_i t ht
    cases h
    exact ⟨rfl, Tr.get_put _ _ _ _ _ ht⟩
  · cases h

noncomputable def denE (σ : Sg) (E : Env) (e : MapEntry) : MapEntry := ⟨den σ E e.key, den σ E e.val, e.born⟩

/-- a block in memory is what its name stands for -/
noncomputable def ObjRel (σ : Sg) (E : Env) (b : Nat) : AO → Option Obj → Prop
  | .cells c flex elem, r => ∃ rest : Array Value, r = some (.cells ((c.map (den σ E)).toArray ++ rest) elem (0, 0)) ∧
      (match flex with | none => rest = #[] | some esz => c.length + rest.size = E.cap b * esz)
  | .map es clock, r => r = some (.map (es.map (denE σ E)).toArray clock)
  | .iter m since seen last, r => r = some (.mapIter (m.map E.blk) since seen.toArray last)

structure Rel (σ : Sg) (E : Env) (H : Hp) (w : World) : Prop where
  blk : ∀ b o, H.get b = some o → ObjRel σ E b o w.heap[E.blk b]?
  inj : ∀ b b', (H.get b).isSome → (H.get b').isSome → E.blk b = E.blk b' → b = b'
  lt : ∀ b o, H.get b = some o → b < H.nx
  ok : ∀ b o, H.get b = some o → okO H.nx o = true
  ext : ∀ p ∈ σ.x, w.heap[p.1]? = some p.2 ∧ ∀ b, (H.get b).isSome → E.blk b ≠ p.1

/-- what a run leaves -/
structure Fr (E : Env) (H : Hp) (w : World) (E' : Env) (H' : Hp) (w' : World) : Prop where
  os : w'.os = w.os
  tape : w'.tape = w.tape
  output : w'.output = w.output
  size : w.heap.size ≤ w'.heap.size
  keep : ∀ g, g < w.heap.size → (∀ b, (H.get b).isSome → E.blk b ≠ g) → w'.heap[g]? = w.heap[g]?
  img : ∀ b, (H'.get b).isSome → (∃ b0, (H.get b0).isSome ∧ E'.blk b = E.blk b0) ∨ w.heap.size ≤ E'.blk b
  ext : Env.Ext H.nx E E'
  nx : H.nx ≤ H'.nx

theorem Fr.refl (E : Env) (H : Hp) (w : World) : Fr E H w E H w :=
  ⟨rfl, rfl, rfl, Nat.le_refl _, fun _ _ _ => rfl, fun b hb => .inl ⟨b, hb, rfl⟩, Env.Ext.refl _ _, Nat.le_refl _⟩
theorem Fr.drew {E : Env} {H : Hp} {w : World} {E' : Env} {H' : Hp} {w' : World} (h : Fr E H w E' H' w') (n : Nat) : Fr E H w E' H' { w' with drawn := n } :=
  ⟨h.os, h.tape, h.output, h.size, h.keep, h.img, h.ext, h.nx⟩
theorem Fr.trans {E E' E'' : Env} {H H' H'' : Hp} {w w' w'' : World} (h : Fr E H w E' H' w') (k : Fr E' H' w' E'' H'' w'') : Fr E H w E'' H'' w'' where
  os := k.os.trans h.os
  tape := k.tape.trans h.tape
  output := k.output.trans h.output
  size := Nat.le_trans h.size k.size
  keep g hg hn := by
    rw [k.keep g (Nat.lt_of_lt_of_le hg h.size) ?_, h.keep g hg hn]
    intro b hb e
    rcases h.img b hb with ⟨b0, h0, e0⟩ | hge
    · exact hn b0 h0 (e0.symm.trans e)
    · omega
  img b hb := by
    rcases k.img b hb with ⟨b0, h0, e0⟩ | hge
    · rcases h.img b0 h0 with ⟨b1, h1, e1⟩ | hge
      · exact .inl ⟨b1, h1, e0.trans e1⟩
      · exact .inr (by rw [e0]; exact hge)
    · exact .inr (Nat.le_trans h.size hge)
  ext := h.ext.trans k.ext h.nx
  nx := Nat.le_trans h.nx k.nx

theorem Rel.drew {E : Env} {H : Hp} {w : World} (h : Rel σ E H w) (n : Nat) : Rel σ E H { w with drawn := n } := ⟨h.blk, h.inj, h.lt, h.ok, h.ext⟩
end Go.Proofs.Ytnjfbcoddbeggaa.Sx
