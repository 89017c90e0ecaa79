/-
  Runs of closed code: a region whose order is open comes, in each order, to what it comes to in the order of its text (2).
-/
import Derived.Test.YtnjfbcoddbeggaaSx15
namespace Go.Proofs.Ytnjfbcoddbeggaa.Sx
open Go
variable {σ : Sg}

structure DSet (σ : Sg) (P : Program) (tb : Tab) (F : Fun) (ops : Array Oper) (M : List Nat) (rs : List Rec) (hs : List Hp) (T0 T2 : Tm) (H0 H2 : Hp) : Prop where
  htb : tb.Ok σ P
  hF : FunOk σ P F
  recs : Recs tb F ops ops.toList T0 H0 0 rs hs T2 H2
  stat : statE ops M = true
  dyn : dynE tb H0 rs hs M (slE rs M) = true

noncomputable def Lst (listed : Array Bool) (i : Nat) : Prop := listed.getD i false = true
noncomputable def Clo (ops : Array Oper) (listed : Array Bool) : Prop := ∀ (i : Nat) (o : Oper), Lst listed i → ops[i]? = some o → ∀ e ∈ o.after, Region.binds .any e = true → Lst listed e.on

section
variable {P : Program} {tb : Tab} {F : Fun} {ops : Array Oper} {M : List Nat} {rs : List Rec} {hs : List Hp} {T0 T2 : Tm} {H0 H2 : Hp}

theorem DSet.opOf (D : DSet σ P tb F ops M rs hs T0 T2 H0 H2) {i : Nat} {r : Rec} (h : rs[i]? = some r) : ops[i]? = some r.o := by
  have := (D.recs.get i r h).2
  simpa using this
theorem DSet.recOf (D : DSet σ P tb F ops M rs hs T0 T2 H0 H2) {i : Nat} (h : i < ops.size) : ∃ r, rs[i]? = some r := by
  have hl := D.recs.len
  have : i < rs.length := by rw [hl]; simpa using h
  exact ⟨rs[i], List.getElem?_eq_getElem this⟩
theorem DSet.recOp (D : DSet σ P tb F ops M rs hs T0 T2 H0 H2) {i : Nat} {o : Oper} (h : ops[i]? = some o) : ∃ r, rs[i]? = some r ∧ r.o = o := by
  obtain ⟨r, hr⟩ := D.recOf (Array.getElem?_eq_some_iff.1 h).1
  have := D.opOf hr
  rw [h] at this
  exact ⟨r, hr, (Option.some.inj this).symm⟩
theorem DSet.stat_at (D : DSet σ P tb F ops M rs hs T0 T2 H0 H2) {i : Nat} {o : Oper} (h : ops[i]? = some o) :
    M.getD i 0 = ancE M o.after.toList ∧ (∀ e ∈ o.after, Region.binds .any e = true → e.on < i) ∧
    ∀ (i' : Nat) (o' : Oper), ops[i']? = some o' → i' ≠ i → ∀ d, o'.dst = some d → o.dst ≠ some d ∧ (d ∈ o.looksAt ops → bitE (M.getD i 0) i' = true ∨ bitE (M.getD i' 0) i = true) := by
  have hs := List.all_eq_true.1 D.stat (o, i) (List.mem_zipIdx_iff_getElem?.2 (by simpa using h))
  simp only [Bool.and_eq_true, Nat.beq_eq, List.all_eq_true] at hs
  obtain ⟨h1, h2, h3⟩ := hs
  refine ⟨h1, fun e he hb => ?_, fun i' o' ho' hne d hd => ?_⟩
  · have := h2 e (by simpa using he)
    rw [hb] at this
    simpa [Nat.blt_eq] using this
  · have := h3 (o', i') (List.mem_zipIdx_iff_getElem?.2 (by simpa using ho'))
    dsimp only at this
    rw [hd] at this
    have hbf : Nat.beq i' i = false := by
      cases hb : Nat.beq i' i with
      | false => rfl
      | true => exact absurd (Nat.eq_of_beq_eq_true hb) hne
    rw [hbf] at this
    simp only [Bool.false_or, Bool.and_eq_true, Bool.or_eq_true] at this
    obtain ⟨k1, k2⟩ := this
    refine ⟨fun e => ?_, fun hmem => ?_⟩
    · rw [e] at k1
      simp at k1
    · rcases k2 with k2 | k2
      · have := List.all_eq_true.1 k2 d hmem
        simp at this
      · exact k2
theorem DSet.anc_lt (D : DSet σ P tb F ops M rs hs T0 T2 H0 H2) : ∀ (i i' : Nat), i < ops.size → bitE (M.getD i 0) i' = true → i' < i := by
  intro i
  induction i using Nat.strongRecOn with
  | _ i ih =>
    intro i' hi hb
    obtain ⟨s1, s2, _⟩ := D.stat_at (Array.getElem?_eq_getElem hi)
    unfold bitE at hb
    rw [s1] at hb
    obtain ⟨e, he, hbd, h⟩ := ancE_bit M i' _ hb
    have hlt := s2 e (by simpa using he) hbd
    rcases h with h | h
    · omega
    · have := ih e.on hlt i' (by omega) h
      omega
theorem DSet.anc (D : DSet σ P tb F ops M rs hs T0 T2 H0 H2) {listed : Array Bool} (hc : Clo ops listed) : ∀ (i i' : Nat), i < ops.size → (∀ o, ops[i]? = some o → ∀ e ∈ o.after, Region.binds .any e = true → Lst listed e.on) → bitE (M.getD i 0) i' = true → Lst listed i' := by
  intro i
  induction i using Nat.strongRecOn with
  | _ i ih =>
    intro i' hi hl hb
    have ho := Array.getElem?_eq_getElem hi
    obtain ⟨s1, s2, _⟩ := D.stat_at ho
    unfold bitE at hb
    rw [s1] at hb
    obtain ⟨e, he, hbd, h⟩ := ancE_bit M i' _ hb
    have he' : e ∈ ops[i].after := by simpa using he
    have hlt := s2 e he' hbd
    have hle := hl _ ho e he' hbd
    rcases h with h | h
    · rw [← h]; exact hle
    · exact ih e.on hlt i' (by omega) (fun o ho2 => hc e.on o hle ho2) h
theorem DSet.dyn_at (D : DSet σ P tb F ops M rs hs T0 T2 H0 H2) {i : Nat} {r : Rec} (h : rs[i]? = some r) :
    okP deep (pmE H0 hs (slE rs M) i (M.getD i 0)) r.v = true ∧
    (r.k = .pure → r.w = true → stillOp r.o.op = true ∨ rangeE tb H0 hs r (loE (slE rs M) i (M.getD i 0)) (hiE (slE rs M) i (hs.length - 1)) = true) ∧
    (r.k = .alloc → r.H.nx ≤ r.H'.nx ∧ ∃ ob, r.H'.get r.H.nx = some ob ∧ okOP (pmE H0 hs (slE rs M) i (M.getD i 0)) ob = true) ∧
    (r.k = .chain → r.H.nx ≤ r.H'.nx ∧ ∀ i' r', rs[i']? = some r' → r'.k ≠ .pure → r.p ≤ r'.p ∨ bitE (M.getD i 0) i' = true) := by
  have hd := List.all_eq_true.1 D.dyn (r, i) (List.mem_zipIdx_iff_getElem?.2 h)
  simp only [Bool.and_eq_true] at hd
  obtain ⟨h1, h2⟩ := hd
  refine ⟨h1, ?_, ?_, ?_⟩
  · intro hk hw
    rw [hk, hw] at h2
    simpa using h2
  · intro hk
    rw [hk] at h2
    simp only [Bool.and_eq_true, Nat.ble_eq] at h2
    refine ⟨h2.1, ?_⟩
    cases hg : r.H'.get r.H.nx with
    | none => rw [hg] at h2; cases h2.2
    | some ob => rw [hg] at h2; exact ⟨ob, rfl, h2.2⟩
  · intro hk
    rw [hk] at h2
    simp only [Bool.and_eq_true, Nat.ble_eq, List.all_eq_true, Bool.or_eq_true] at h2
    refine ⟨h2.1, fun i' r' hr' hk' => ?_⟩
    exact h2.2 (i', M.getD i' 0, r') (mem_slE.2 ⟨hr', hk', rfl⟩)
theorem hAt_of {q : Nat} {H : Hp} (h : hs[q]? = some H) : hAt H0 hs q = H ∧ q < hs.length := by
  refine ⟨?_, (List.getElem?_eq_some_iff.1 h).1⟩
  simp [hAt, h]
theorem DSet.at_rec (D : DSet σ P tb F ops M rs hs T0 T2 H0 H2) {i : Nat} {r : Rec} (h : rs[i]? = some r) :
    hAt H0 hs r.p = r.H ∧ r.p < hs.length ∧ (r.k ≠ .pure → hAt H0 hs (r.p + 1) = r.H' ∧ r.p + 1 < hs.length) := by
  obtain ⟨_, h2, h3⟩ := D.recs.pos.2.2.2.1 i r h
  obtain ⟨a, b⟩ := hAt_of (H0 := H0) h2
  exact ⟨a, b, fun hk => hAt_of (H0 := H0) (h3 hk)⟩
theorem DSet.nx_step (D : DSet σ P tb F ops M rs hs T0 T2 H0 H2) {q : Nat} (hq : q + 1 < hs.length) : (hAt H0 hs q).nx ≤ (hAt H0 hs (q + 1)).nx := by
  obtain ⟨i, r, h1, h2, h3⟩ := D.recs.pos.2.2.2.2 q (Nat.zero_le _) (by omega)
  obtain ⟨a, b, c⟩ := D.at_rec h1
  have d := D.dyn_at h1
  subst h3
  rw [a, (c h2).1]
  cases hk : r.k with
  | pure => exact absurd hk h2
  | alloc => exact (d.2.2.1 hk).1
  | chain => exact (d.2.2.2 hk).1
theorem DSet.nx_mono (D : DSet σ P tb F ops M rs hs T0 T2 H0 H2) {q q' : Nat} (h : q ≤ q') (hq : q' < hs.length) : (hAt H0 hs q).nx ≤ (hAt H0 hs q').nx := by
  induction h with
  | refl => exact Nat.le_refl _
  | step h ih => exact Nat.le_trans (ih (by omega)) (D.nx_step hq)
/-- two operations on memory of one number are one -/
theorem DSet.same_p (D : DSet σ P tb F ops M rs hs T0 T2 H0 H2) {i i' : Nat} {r r' : Rec} (h : rs[i]? = some r) (h' : rs[i']? = some r') (k : r.k ≠ .pure) (k' : r'.k ≠ .pure) (e : r.p = r'.p) : i = i' := by
  rcases Nat.lt_trichotomy i i' with hl | hl | hl
  · have := (D.recs.order i i' r r' hl h h').2 k; omega
  · exact hl
  · have := (D.recs.order i' i r' r hl h' h).2 k'; omega
theorem DSet.alloc_of (D : DSet σ P tb F ops M rs hs T0 T2 H0 H2) {i : Nat} {r : Rec} (h : rs[i]? = some r) (hk : r.k = .alloc) :
    r.w = true ∧ evL r.T r.o.op.operands.toList = some r.vs ∧ ∃ ob mk, allocE tb r.o.op r.vs = some (ob, mk) ∧ okO r.H.nx ob = true ∧ r.H.add ob = some r.H' ∧ r.v = mk r.H.nx ∧ okOP (pmE H0 hs (slE rs M) i (M.getD i 0)) ob = true := by
  obtain ⟨_, g2, g3, _, _⟩ := (D.recs.get i r h).1
  cases hw : r.w with
  | false => have := (g3 hw).2; rw [hk] at this; cases this
  | true =>
    obtain ⟨e1, e2, e3⟩ := g2 hw
    rw [hk] at e2
    obtain ⟨ob, mk, a1, a2, a3, a4⟩ := opE_alloc e2
    refine ⟨rfl, e1, ob, mk, a1, a2, a3, a4, ?_⟩
    obtain ⟨ob', b1, b2⟩ := ((D.dyn_at h).2.2.1 hk).2
    rw [(Hp.get_add a3).2, if_pos rfl] at b1
    cases b1
    exact b2

/-! ### What holds between the operations -/
noncomputable def Ghost (σ : Sg) (rs : List Rec) (hs : List Hp) (M : List Nat) (H0 : Hp) (w0 : World) (E : Env) (w : World) (j i : Nat) (r : Rec) : Prop :=
  E.blk r.H.nx < w.heap.size ∧ w0.heap.size ≤ E.blk r.H.nx ∧ (∀ b o, (hAt H0 hs j).get b = some o → E.blk b ≠ E.blk r.H.nx) ∧
  ∃ ob, r.H.add ob = some r.H' ∧ okO r.H.nx ob = true ∧ okOP (pmE H0 hs (slE rs M) i (M.getD i 0)) ob = true ∧ ObjRel σ E r.H.nx ob w.heap[E.blk r.H.nx]?

structure InvW (σ : Sg) (ops : Array Oper) (M : List Nat) (rs : List Rec) (hs : List Hp) (T0 : Tm) (H0 : Hp) (E0 : Env) (w0 : World) (a0 : Act) (listed : Array Bool) (a : Act) (w : World) (j : Nat) (E : Env) : Prop where
  jlt : j < hs.length
  size : listed.size = ops.size
  clo : Clo ops listed
  pre : ∀ (i : Nat) (r : Rec), rs[i]? = some r → r.k ≠ .pure → r.p < j → Lst listed i
  early : ∀ (i : Nat) (r : Rec), rs[i]? = some r → r.k ≠ .pure → j ≤ r.p → Lst listed i → r.k = .alloc ∧ Ghost σ rs hs M H0 w0 E w j i r
  gdist : ∀ (i i' : Nat) (r r' : Rec), rs[i]? = some r → rs[i']? = some r' → r.k ≠ .pure → r'.k ≠ .pure → j ≤ r.p → j ≤ r'.p → Lst listed i → Lst listed i' → E.blk r.H.nx = E.blk r'.H.nx → i = i'
  rel : Rel σ E (hAt H0 hs j) w
  fr : Fr E0 H0 w0 E (hAt H0 hs j) w
  val : ∀ (i : Nat) (r : Rec) (d : Tmp), rs[i]? = some r → Lst listed i → r.o.dst = some d → a.tmps.getD d undef = den σ E r.v
  old : ∀ t : Tmp, (∀ (i : Nat) (r : Rec), rs[i]? = some r → Lst listed i → r.o.dst ≠ some t) → a.tmps.getD t undef = den σ E (T0.at t)
  tsz : a.tmps.size = T0.n
  dfr : a.defers = a0.defers
  xlt : ∀ p ∈ σ.x, p.1 < w0.heap.size

variable {E0 : Env} {w0 : World} {a0 : Act} {listed : Array Bool} {a : Act} {w : World} {j : Nat} {E : Env}

/-- names that a listed value may hold are kept -/
theorem InvW.on (D : DSet σ P tb F ops M rs hs T0 T2 H0 H2) (I : InvW σ ops M rs hs T0 H0 E0 w0 a0 listed a w j E) {E' : Env} (he : Env.Ext (hAt H0 hs j).nx E E')
    (hg : ∀ (i : Nat) (r : Rec), rs[i]? = some r → r.k = .alloc → j ≤ r.p → Lst listed i → E'.blk r.H.nx = E.blk r.H.nx ∧ E'.cap r.H.nx = E.cap r.H.nx)
    {i : Nat} (hi : i < ops.size) (hl : ∀ i', i' = i ∨ bitE (M.getD i 0) i' = true → Lst listed i' ∨ (∃ r', rs[i']? = some r' ∧ r'.k = .pure)) : Env.On (pmE H0 hs (slE rs M) i (M.getD i 0)) E E' := by
  have _ := hi
  have hlst : ∀ i' r', rs[i']? = some r' → r'.k ≠ .pure → (i' = i ∨ bitE (M.getD i 0) i' = true) → Lst listed i' := by
    intro i' r' hr' hk' hb
    rcases hl i' hb with h | ⟨r2, h1, h2⟩
    · exact h
    · rw [hr'] at h1; cases h1; exact absurd h2 hk'
  intro b hb
  unfold pmE at hb
  rw [Bool.or_eq_true] at hb
  rcases hb with hb | hb
  · rw [Nat.blt_eq] at hb
    have hlo : loE (slE rs M) i (M.getD i 0) ≤ j := by
      refine loE_le _ ?_
      rintro ⟨i', m', r'⟩ hx hk hanc
      obtain ⟨x1, x2, _⟩ := mem_slE.1 hx
      dsimp only at hk hanc ⊢
      have hls := hlst i' r' x1 x2 hanc
      rcases Nat.lt_or_ge r'.p j with h | h
      · omega
      · have := (I.early i' r' x1 x2 h hls).1
        rw [hk] at this; cases this
    exact he b (Nat.lt_of_lt_of_le hb (D.nx_mono hlo I.jlt))
  · rw [List.any_eq_true] at hb
    obtain ⟨⟨i', m', r'⟩, hx, hb⟩ := hb
    obtain ⟨x1, x2, _⟩ := mem_slE.1 hx
    simp only [Bool.and_eq_true, Bool.or_eq_true, Nat.beq_eq] at hb
    obtain ⟨b1, b2, b3⟩ := hb
    have hk := isA_ne b1
    have hls := hlst i' r' x1 x2 b2
    rw [b3]
    rcases Nat.lt_or_ge r'.p j with h | h
    · refine he _ ?_
      obtain ⟨q1, q2, q3⟩ := D.at_rec x1
      have := D.nx_mono (show r'.p + 1 ≤ j by omega) I.jlt
      rw [(q3 x2).1] at this
      obtain ⟨_, _, ob, mk, _, _, a3, _⟩ := D.alloc_of x1 hk
      have := (Hp.get_add a3).1
      omega
    · exact hg i' r' x1 hk h hls

/-- what is looked at is known -/
theorem InvW.agree (D : DSet σ P tb F ops M rs hs T0 T2 H0 H2) (I : InvW σ ops M rs hs T0 H0 E0 w0 a0 listed a w j E) {i : Nat} {r : Rec} (hr : rs[i]? = some r) (hn : ¬ Lst listed i)
    (he : ∀ e ∈ r.o.after, Region.binds .any e = true → Lst listed e.on) : ∀ t ∈ r.o.looksAt ops, a.tmps.getD t undef = den σ E (r.T.at t) := by
  intro t ht
  have ho := D.opOf hr
  have hi : i < ops.size := (Array.getElem?_eq_some_iff.1 ho).1
  obtain ⟨s1, s2, s3⟩ := D.stat_at ho
  by_cases hex : ∃ (i' : Nat) (r' : Rec), rs[i']? = some r' ∧ r'.o.dst = some t ∧ i' ≠ i
  · obtain ⟨i', r', h1, h2, h3⟩ := hex
    have hone : ∀ (i'' : Nat) (r'' : Rec), rs[i'']? = some r'' → r''.o.dst = some t → i'' = i' := by
      intro i'' r'' q1 q2
      by_cases e : i'' = i'
      · exact e
      · exact absurd h2 ((D.stat_at (D.opOf h1)).2.2 i'' r''.o (D.opOf q1) e t q2).1
    rcases (s3 i' r'.o (D.opOf h1) h3 t h2).2 ht with hb | hb
    · have hlt := D.anc_lt i i' hi hb
      have hls : Lst listed i' := D.anc I.clo i i' hi (fun o ho2 => by rw [ho] at ho2; cases ho2; exact he) hb
      have hT := D.recs.tmps.2.1 i r t i' r' hr hlt h1 h2 (fun i'' r'' q1 _ q3 q4 => by
        have := hone i'' r'' q3 q4
        omega)
      rw [hT]
      exact I.val i' r' t h1 hls h2
    · have ho' := D.opOf h1
      have hi' : i' < ops.size := (Array.getElem?_eq_some_iff.1 ho').1
      have hlt := D.anc_lt i' i hi' hb
      have hnl : ¬ Lst listed i' := fun hls => hn (D.anc I.clo i' i hi' (fun o ho2 => I.clo i' o hls ho2) hb)
      rw [D.recs.tmps.1 i r t hr (fun i'' r'' q1 q2 q3 => by
        have := hone i'' r'' q2 q3
        omega)]
      refine I.old t fun i'' r'' q1 q2 q3 => ?_
      rw [hone i'' r'' q1 q3] at q2
      exact hnl q2
  · have hno : ∀ (i' : Nat) (r' : Rec), rs[i']? = some r' → i' ≠ i → r'.o.dst ≠ some t := fun i' r' h1 h2 h3 => hex ⟨i', r', h1, h3, h2⟩
    rw [D.recs.tmps.1 i r t hr (fun i' r' hlt h1 => hno i' r' h1 (by omega))]
    refine I.old t fun i' r' h1 h2 => hno i' r' h1 ?_
    intro e
    subst e
    exact hn h2

theorem evL_part {T : Tm} : ∀ (xs : List Operand) (vs : List Value), (∀ t, Operand.tmp t ∈ xs → a.tmps.getD t undef = den σ E (T.at t)) → evL T xs = some vs → xs.map a.eval = vs.map (den σ E) := by
  intro xs
  induction xs with
  | nil => intro vs _ he; cases he; rfl
  | cons x xs ih =>
    intro vs h he
    simp only [evL] at he
    cases hx : evE T x with
    | none => rw [hx] at he; cases he
    | some v =>
      cases hxs : evL T xs with
      | none => rw [hx, hxs] at he; cases he
      | some vs' =>
        rw [hx, hxs] at he
        cases he
        have e1 : a.eval x = den σ E v := by
          cases x with
          | tmp t => cases hx; exact h t List.mem_cons_self
          | const c =>
            simp only [evE] at hx
            cases hc : okV deep 0 c with
            | false => rw [hc] at hx; cases hx
            | true => rw [hc] at hx; cases hx; exact (den_plain E deep _ hc).symm
          | global g => cases hx
          | func f => cases hx; rw [den_func]; simp [Act.eval]
        rw [List.map_cons, List.map_cons, e1, ih _ (fun t ht => h t (List.mem_cons_of_mem _ ht)) hxs]

theorem lst_set {i i' : Nat} (hi : i < listed.size) : Lst (listed.setIfInBounds i true) i' ↔ i' = i ∨ Lst listed i' := by
  unfold Lst
  by_cases e : i' = i
  · subst e; simp [hi]
  · simp [Array.getElem?_setIfInBounds_ne (Ne.symm e), e]

/-- one more value is known -/
theorem InvW.put_val (D : DSet σ P tb F ops M rs hs T0 T2 H0 H2) (I : InvW σ ops M rs hs T0 H0 E0 w0 a0 listed a w j E) {i : Nat} {r : Rec} (hr : rs[i]? = some r) {E' : Env}
    (hon : ∀ (i' : Nat) (r' : Rec), rs[i']? = some r' → Lst listed i' → den σ E' r'.v = den σ E r'.v) (hold : ∀ t, den σ E' (T0.at t) = den σ E (T0.at t)) :
    (∀ (i' : Nat) (r' : Rec) (d : Tmp), rs[i']? = some r' → Lst (listed.setIfInBounds i true) i' → r'.o.dst = some d → (a.put r.o.dst (den σ E' r.v)).tmps.getD d undef = den σ E' r'.v) ∧
    (∀ t : Tmp, (∀ (i' : Nat) (r' : Rec), rs[i']? = some r' → Lst (listed.setIfInBounds i true) i' → r'.o.dst ≠ some t) → (a.put r.o.dst (den σ E' r.v)).tmps.getD t undef = den σ E' (T0.at t)) ∧
    (a.put r.o.dst (den σ E' r.v)).tmps.size = T0.n ∧ (a.put r.o.dst (den σ E' r.v)).defers = a0.defers := by
  have ho := D.opOf hr
  have hi : i < listed.size := by rw [I.size]; exact (Array.getElem?_eq_some_iff.1 ho).1
  obtain ⟨_, _, _, _, T', hT'⟩ := (D.recs.get i r hr).1
  have hTn := D.recs.tmps.2.2.2.2.1 i r hr
  have hput : ∀ t, (a.put r.o.dst (den σ E' r.v)).tmps.getD t undef = if r.o.dst = some t then den σ E' r.v else a.tmps.getD t undef := by
    intro t
    cases hd : r.o.dst with
    | none => simp [Act.put]
    | some d =>
      rw [hd] at hT'
      have hlt := (Tm.at_put hT').2.1
      rw [hTn, ← I.tsz] at hlt
      by_cases e : d = t
      · subst e
        simp [Act.put, hlt]
      · have : ¬ (some d = some t) := fun h => e (Option.some.inj h)
        rw [if_neg this]
        simp [Act.put, Array.getElem?_setIfInBounds_ne e]
  refine ⟨?_, ?_, ?_, ?_⟩
  · intro i' r' d h1 h2 h3
    rw [hput]
    rw [lst_set hi] at h2
    by_cases e : i' = i
    · subst e
      rw [hr] at h1
      cases h1
      rw [if_pos h3]
    · have hls := h2.resolve_left e
      have hne := ((D.stat_at ho).2.2 i' r'.o (D.opOf h1) e d h3).1
      rw [if_neg hne, I.val i' r' d h1 hls h3, hon i' r' h1 hls]
  · intro t h
    rw [hput, if_neg (h i r hr ((lst_set hi).2 (.inl rfl))), I.old t (fun i' r' h1 h2 => h i' r' h1 ((lst_set hi).2 (.inr h2))), hold]
  · rw [← I.tsz]
    cases r.o.dst <;> simp [Act.put]
  · rw [← I.dfr]
    cases r.o.dst <;> rfl
end
end Go.Proofs.Ytnjfbcoddbeggaa.Sx
