/-
  Runs of closed code: a region whose order is open comes, in each order, to what it comes to in the order of its text (3).
-/
import Derived.Test.YtnjfbcoddbeggaaSx16
namespace Go.Proofs.Ytnjfbcoddbeggaa.Sx
open Go
variable {σ : Sg}

section
variable {P : Program} {tb : Tab} {F : Fun} {ops : Array Oper} {M : List Nat} {rs : List Rec} {hs : List Hp} {T0 T2 : Tm} {H0 H2 : Hp}
variable {E0 : Env} {w0 : World} {a0 : Act} {listed : Array Bool} {a : Act} {w : World} {j : Nat} {E : Env}

noncomputable def Nxt (rs : List Rec) (listed : Array Bool) (j : Nat) : Prop := ∀ (i : Nat) (r : Rec), rs[i]? = some r → r.k ≠ .pure → r.p = j → ¬ Lst listed i

theorem InvW.absorb (D : DSet σ P tb F ops M rs hs T0 T2 H0 H2) : ∀ (n j : Nat), hs.length - j = n → InvW σ ops M rs hs T0 H0 E0 w0 a0 listed a w j E → ∃ j', InvW σ ops M rs hs T0 H0 E0 w0 a0 listed a w j' E ∧ Nxt rs listed j' := by
  intro n
  induction n using Nat.strongRecOn with
  | _ n ih =>
    intro j hj I
    by_cases hex : ∃ (i : Nat) (r : Rec), rs[i]? = some r ∧ r.k ≠ .pure ∧ r.p = j ∧ Lst listed i
    · obtain ⟨i, r, h1, h2, h3, h4⟩ := hex
      obtain ⟨q1, q2, q3⟩ := D.at_rec h1
      obtain ⟨q3, q4⟩ := q3 h2
      rw [h3] at q1 q3 q4
      obtain ⟨hk, g1, g2, g3, ob, g4, g5, g6, g7⟩ := I.early i r h1 h2 (by omega) h4
      have I' : InvW σ ops M rs hs T0 H0 E0 w0 a0 listed a w (j + 1) E := by
        refine ⟨q4, I.size, I.clo, ?_, ?_, ?_, ?_, ?_, I.val, I.old, I.tsz, I.dfr, I.xlt⟩
        · intro i' r' k1 k2 k3
          by_cases e : r'.p = j
          · have := D.same_p h1 k1 h2 k2 (by omega)
            rw [← this]; exact h4
          · exact I.pre i' r' k1 k2 (by omega)
        · intro i' r' k1 k2 k3 k4
          obtain ⟨hk', e1, e2, e3, ob', e4, e5, e6, e7⟩ := I.early i' r' k1 k2 (by omega) k4
          refine ⟨hk', e1, e2, ?_, ob', e4, e5, e6, e7⟩
          intro b o hb
          rw [q3, (Hp.get_add g4).2] at hb
          by_cases e : b = r.H.nx
          · subst e
            intro e'
            have := I.gdist i i' r r' h1 k1 h2 k2 (by omega) (by omega) h4 k4 e'
            subst this
            rw [h1] at k1
            cases k1
            omega
          · rw [if_neg e, ← q1] at hb
            exact e3 b o hb
        · intro i1 i2 r1 r2 a1 a2 a3 a4 a5 a6
          exact I.gdist i1 i2 r1 r2 a1 a2 a3 a4 (by omega) (by omega)
        · rw [q3]
          have hrel := I.rel
          rw [q1] at hrel
          exact hrel.absorb g4 g5 g7 (by rw [q1] at g3; exact g3) (fun p hp => by have := I.xlt p hp; omega)
        · rw [q3]
          have hfr := I.fr
          rw [q1] at hfr
          exact hfr.absorb g4 g2
      exact ih (hs.length - (j + 1)) (by omega) (j + 1) rfl I'
    · exact ⟨j, I, fun i r h1 h2 h3 h4 => hex ⟨i, r, h1, h2, h3, h4⟩⟩

theorem recs_okT {os : List Oper} {T T2 : Tm} {H H2 : Hp} {p : Nat} {rs : List Rec} {hs : List Hp} (h : Recs tb F ops os T H p rs hs T2 H2) :
    (∀ (i : Nat) (r : Rec), rs[i]? = some r → r.H.nx ≤ r.H'.nx) → OkT H.nx T → (∀ (i : Nat) (r : Rec), rs[i]? = some r → OkT r.H.nx r.T) ∧ OkT H2.nx T2 := by
  induction h with
  | nil => intro _ hT; exact ⟨fun i r hr => by simp at hr, hT⟩
  | still hr ho hk hp h ih =>
    intro hm hT
    rename_i o os r rs hs T' T2 H2
    have hv : okV deep r.H.nx r.v = true := by
      obtain ⟨_, g2, g3, g4, _⟩ := hr
      cases hw : r.w with
      | true => have := (g2 hw).2.2; rw [g4 hk] at this; exact this
      | false => rw [(g3 hw).1]; exact okV_undef _
    obtain ⟨i1, i2⟩ := ih (fun i r hi => hm (i + 1) r (by simpa using hi)) (hT.put hv hp)
    refine ⟨?_, i2⟩
    intro i r hi
    cases i with
    | zero => simp at hi; subst hi; exact hT
    | succ i => exact i1 i r (by simpa using hi)
  | move hr ho hk hp h ih =>
    intro hm hT
    rename_i o os r rs hs T' T2 H2
    have hv : okV deep r.H'.nx r.v = true := by
      obtain ⟨_, g2, g3, g4, _⟩ := hr
      cases hw : r.w with
      | true => exact (g2 hw).2.2
      | false => rw [(g3 hw).1]; exact okV_undef _
    obtain ⟨i1, i2⟩ := ih (fun i r hi => hm (i + 1) r (by simpa using hi)) ((hT.mono (hm 0 _ rfl)).put hv hp)
    refine ⟨?_, i2⟩
    intro i r hi
    cases i with
    | zero => simp at hi; subst hi; exact hT
    | succ i => exact i1 i r (by simpa using hi)

theorem DSet.mono1 (D : DSet σ P tb F ops M rs hs T0 T2 H0 H2) (i : Nat) (r : Rec) (h : rs[i]? = some r) : r.H.nx ≤ r.H'.nx := by
  have d := D.dyn_at h
  cases hk : r.k with
  | pure => rw [(D.recs.get i r h).1.2.2.2.1 hk]; exact Nat.le_refl _
  | alloc => exact (d.2.2.1 hk).1
  | chain => exact (d.2.2.2 hk).1
theorem DSet.h0 (D : DSet σ P tb F ops M rs hs T0 T2 H0 H2) : hAt H0 hs 0 = H0 ∧ 0 < hs.length := hAt_of D.recs.pos.2.1

theorem InvW.clo_set (D : DSet σ P tb F ops M rs hs T0 T2 H0 H2) (I : InvW σ ops M rs hs T0 H0 E0 w0 a0 listed a w j E) {i : Nat} {r : Rec} (hr : rs[i]? = some r)
    (he : ∀ e ∈ r.o.after, Region.binds .any e = true → Lst listed e.on) : Clo ops (listed.setIfInBounds i true) := by
  have ho := D.opOf hr
  have hi : i < listed.size := by rw [I.size]; exact (Array.getElem?_eq_some_iff.1 ho).1
  intro i' o' h1 h2 e h3 h4
  rw [lst_set hi] at h1 ⊢
  rcases h1 with h1 | h1
  · subst h1
    rw [ho] at h2
    cases h2
    exact .inr (he e h3 h4)
  · exact .inr (I.clo i' o' h1 h2 e h3 h4)

/-- all that a listed value names is kept where names below, and those of blocks made early, are kept -/
theorem InvW.keeps (D : DSet σ P tb F ops M rs hs T0 T2 H0 H2) (I : InvW σ ops M rs hs T0 H0 E0 w0 a0 listed a w j E) (hT0 : OkT H0.nx T0) {E' : Env} (he : Env.Ext (hAt H0 hs j).nx E E')
    (hg : ∀ (i : Nat) (r : Rec), rs[i]? = some r → r.k = .alloc → j ≤ r.p → Lst listed i → E'.blk r.H.nx = E.blk r.H.nx ∧ E'.cap r.H.nx = E.cap r.H.nx) :
    (∀ (i : Nat) (r : Rec), rs[i]? = some r → Lst listed i → Env.On (pmE H0 hs (slE rs M) i (M.getD i 0)) E E') ∧
    (∀ (i : Nat) (r : Rec), rs[i]? = some r → Lst listed i → den σ E' r.v = den σ E r.v) ∧ ∀ t, den σ E' (T0.at t) = den σ E (T0.at t) := by
  have hon : ∀ (i : Nat) (r : Rec), rs[i]? = some r → Lst listed i → Env.On (pmE H0 hs (slE rs M) i (M.getD i 0)) E E' := by
    intro i r hr hl
    have ho := D.opOf hr
    have hi : i < ops.size := (Array.getElem?_eq_some_iff.1 ho).1
    refine I.on D he hg hi ?_
    rintro i' (rfl | hb)
    · exact .inl hl
    · exact .inl (D.anc I.clo i i' hi (fun o ho2 => I.clo i o hl ho2) hb)
  refine ⟨hon, fun i r hr hl => den_on (hon i r hr hl) deep _ (D.dyn_at hr).1, fun t => ?_⟩
  refine den_ext (n := H0.nx) (fun b hb => he b ?_) deep _ (hT0 t)
  have := D.nx_mono (Nat.zero_le j) I.jlt
  rw [D.h0.1] at this
  omega

/-- an operation on memory whose turn it is -/
theorem step_turn (D : DSet σ P tb F ops M rs hs T0 T2 H0 H2) (hT0 : OkT H0.nx T0) (I : InvW σ ops M rs hs T0 H0 E0 w0 a0 listed a w j E) (hn : Nxt rs listed j) {i : Nat} {r : Rec} (hr : rs[i]? = some r)
    (hl : ¬ Lst listed i) (he : ∀ e ∈ r.o.after, Region.binds .any e = true → Lst listed e.on) (hk : r.k ≠ .pure) (hp : r.p = j) {K : Act → World → Prop} {Q : Exit → Act → World → Prop}
    (hK : ∀ a' w' j' E', InvW σ ops M rs hs T0 H0 E0 w0 a0 (listed.setIfInBounds i true) a' w' j' E' → Nxt rs (listed.setIfInBounds i true) j' → K a' w') : r.o.wp P a w K Q := by
  have _ := hn
  have _ := hl
  have ho := D.opOf hr
  have hi : i < listed.size := by rw [I.size]; exact (Array.getElem?_eq_some_iff.1 ho).1
  obtain ⟨q1, q2, q3⟩ := D.at_rec hr
  obtain ⟨q3, q4⟩ := q3 hk
  rw [hp] at q1 q3 q4
  obtain ⟨_, g2, g3, _, _⟩ := (D.recs.get i r hr).1
  have hw : r.w = true := by
    cases hw : r.w with
    | true => rfl
    | false => exact absurd (g3 hw).2 hk
  obtain ⟨e1, e2, e3⟩ := g2 hw
  have hag := I.agree D hr hl he
  have hv := evL_part (a := a) (E := E) _ _ (fun t ht => hag t (List.mem_append_left _ (List.mem_filterMap.2 ⟨.tmp t, ht, rfl⟩))) e1
  have hokT := (recs_okT D.recs (D.mono1) hT0).1 i r hr
  have hrel := I.rel
  rw [q1] at hrel
  refine op_wp D.htb D.hF hrel hv (evL_ok hokT _ _ e1) e2 ?_
  intro E1 w1 r1 r2
  obtain ⟨E2, hE2⟩ : ∃ E2 : Env, E2 = ⟨fun b => if b < r.H'.nx then E1.blk b else E.blk b, fun b => if b < r.H'.nx then E1.cap b else E.cap b⟩ := ⟨_, rfl⟩
  have x1 : Env.Ext r.H'.nx E1 E2 := fun b hb => by rw [hE2]; simp [hb]
  have x2 : Env.Ext (hAt H0 hs j).nx E E2 := by
    intro b hb
    rw [q1] at hb
    have hb' : b < r.H'.nx := Nat.lt_of_lt_of_le hb r2.nx
    exact ⟨(x1 b hb').1.trans (r2.ext b hb).1, (x1 b hb').2.trans (r2.ext b hb).2⟩
  have x3 : ∀ b, r.H'.nx ≤ b → E2.blk b = E.blk b ∧ E2.cap b = E.cap b := fun b hb => by rw [hE2]; simp [Nat.not_lt.2 hb]
  have hnm : ∀ (i' : Nat) (r' : Rec), rs[i']? = some r' → r'.k ≠ .pure → j ≤ r'.p → i' ≠ i → r.H'.nx ≤ r'.H.nx ∧ j + 1 ≤ r'.p := by
    intro i' r' k1 k2 k3 k4
    have hne : r'.p ≠ j := fun e => k4 (D.same_p k1 hr k2 hk (by omega))
    obtain ⟨c1, c2, _⟩ := D.at_rec k1
    have := D.nx_mono (show j + 1 ≤ r'.p by omega) c2
    rw [q3, c1] at this
    exact ⟨this, by omega⟩
  have hg : ∀ (i' : Nat) (r' : Rec), rs[i']? = some r' → r'.k = .alloc → j ≤ r'.p → Lst listed i' → E2.blk r'.H.nx = E.blk r'.H.nx ∧ E2.cap r'.H.nx = E.cap r'.H.nx := by
    intro i' r' k1 k2 k3 k4
    refine x3 _ (hnm i' r' k1 (by rw [k2]; simp) k3 ?_).1
    intro e; subst e; exact hl k4
  obtain ⟨on1, on2, on3⟩ := I.keeps D hT0 x2 hg
  have hval : den σ E1 r.v = den σ E2 r.v := (den_ext x1 deep _ e3).symm
  rw [hval]
  obtain ⟨p1, p2, p3, p4⟩ := I.put_val D hr on2 on3
  have I' : InvW σ ops M rs hs T0 H0 E0 w0 a0 (listed.setIfInBounds i true) (a.put r.o.dst (den σ E2 r.v)) w1 (j + 1) E2 := by
    refine ⟨q4, by simpa using I.size, I.clo_set D hr he, ?_, ?_, ?_, ?_, ?_, p1, p2, p3, p4, I.xlt⟩
    · intro i' r' k1 k2 k3
      rw [lst_set hi]
      by_cases e : r'.p = j
      · exact .inl (D.same_p k1 hr k2 hk (by omega))
      · exact .inr (I.pre i' r' k1 k2 (by omega))
    · intro i' r' k1 k2 k3 k4
      rw [lst_set hi] at k4
      have hne : i' ≠ i := by
        intro e
        subst e
        rw [hr] at k1
        cases k1
        omega
      have k4 := k4.resolve_left hne
      obtain ⟨hk', d1, d2, d3, ob, d4, d5, d6, d7⟩ := I.early i' r' k1 k2 (by omega) k4
      have hbl := hg i' r' k1 hk' (by omega) k4
      rw [q1] at d3
      refine ⟨hk', ?_, ?_, ?_, ob, d4, d5, d6, ?_⟩
      · rw [hbl.1]; have := r2.size; omega
      · rw [hbl.1]; exact d2
      · intro b o hb
        rw [q3] at hb
        rw [hbl.1, (x1 b (r1.lt b o hb)).1]
        rcases r2.img b (by rw [hb]; rfl) with ⟨b0, hb0, e0⟩ | hge
        · obtain ⟨o0, ho0⟩ := Option.isSome_iff_exists.1 hb0
          rw [e0]; exact d3 b0 o0 ho0
        · omega
      · rw [hbl.1, r2.keep _ d1 (fun b hb => by
          obtain ⟨o0, ho0⟩ := Option.isSome_iff_exists.1 hb
          exact d3 b o0 ho0)]
        exact d7.on (on1 i' r' k1 k4) d6 hbl.2
    · intro i1 i2 r1' r2' a1 a2 a3 a4 a5 a6 a7 a8 a9
      rw [lst_set hi] at a7 a8
      have n1 : i1 ≠ i := by intro e; subst e; rw [hr] at a1; cases a1; omega
      have n2 : i2 ≠ i := by intro e; subst e; rw [hr] at a2; cases a2; omega
      have a7 := a7.resolve_left n1
      have a8 := a8.resolve_left n2
      rw [(x3 _ (hnm i1 r1' a1 a3 (by omega) n1).1).1, (x3 _ (hnm i2 r2' a2 a4 (by omega) n2).1).1] at a9
      exact I.gdist i1 i2 r1' r2' a1 a2 a3 a4 (by omega) (by omega) a7 a8 a9
    · rw [q3]; exact r1.congr x1
    · rw [q3]
      have hfr := I.fr
      rw [q1] at hfr
      exact (hfr.trans r2).congr r1 x1
  obtain ⟨j', I2, N2⟩ := InvW.absorb D _ (j + 1) rfl I'
  exact hK _ _ _ _ I2 N2

/-- a block that is made ahead of its time -/
theorem step_early (D : DSet σ P tb F ops M rs hs T0 T2 H0 H2) (hT0 : OkT H0.nx T0) (I : InvW σ ops M rs hs T0 H0 E0 w0 a0 listed a w j E) (hn : Nxt rs listed j) {i : Nat} {r : Rec} (hr : rs[i]? = some r)
    (hl : ¬ Lst listed i) (he : ∀ e ∈ r.o.after, Region.binds .any e = true → Lst listed e.on) (hk : r.k = .alloc) (hp : j < r.p) {K : Act → World → Prop} {Q : Exit → Act → World → Prop}
    (hK : ∀ a' w' j' E', InvW σ ops M rs hs T0 H0 E0 w0 a0 (listed.setIfInBounds i true) a' w' j' E' → Nxt rs (listed.setIfInBounds i true) j' → K a' w') : r.o.wp P a w K Q := by
  have ho := D.opOf hr
  have hi : i < listed.size := by rw [I.size]; exact (Array.getElem?_eq_some_iff.1 ho).1
  obtain ⟨hw, e1, ob, mk, m1, m2, m3, m4, m5⟩ := D.alloc_of hr hk
  have hkn : r.k ≠ .pure := by rw [hk]; simp
  obtain ⟨q1, q2, _⟩ := D.at_rec hr
  have hag := I.agree D hr hl he
  have hv := evL_part (a := a) (E := E) _ _ (fun t ht => hag t (List.mem_append_left _ (List.mem_filterMap.2 ⟨.tmp t, ht, rfl⟩))) e1
  obtain ⟨hnf, f, f1, f2⟩ := alloc_sound (P := P) D.htb hv m1
  unfold Oper.wp
  rw [f1 w]
  show K (a.put r.o.dst (f w.heap.size)) _
  obtain ⟨E', hE'⟩ : ∃ E' : Env, E' = E.upd r.H.nx w.heap.size (E.cap r.H.nx) := ⟨_, rfl⟩
  have hblk : E'.blk r.H.nx = w.heap.size := by rw [hE']; exact Env.upd_blk _ _ _ _
  have helse : ∀ b, b ≠ r.H.nx → E'.blk b = E.blk b := fun b hb => by rw [hE']; simp [Env.upd, hb]
  have hcap : ∀ b, E'.cap b = E.cap b := fun b => by rw [hE']; by_cases e : b = r.H.nx <;> simp [Env.upd, e]
  have hjp := D.nx_mono (Nat.le_of_lt hp) q2
  rw [q1] at hjp
  have x2 : Env.Ext (hAt H0 hs j).nx E E' := fun b hb => ⟨helse b (by omega), hcap b⟩
  have xn : Env.Ext r.H.nx E E' := fun b hb => ⟨helse b (by omega), hcap b⟩
  have hnm : ∀ (i' : Nat) (r' : Rec), rs[i']? = some r' → r'.k = .alloc → i' ≠ i → r'.H.nx ≠ r.H.nx := by
    intro i' r' k1 k2 k3
    have k2' : r'.k ≠ .pure := by rw [k2]; simp
    obtain ⟨c1, c2, c3⟩ := D.at_rec k1
    obtain ⟨c3, c4⟩ := c3 k2'
    obtain ⟨_, _, ob', mk', _, _, b3, _⟩ := D.alloc_of k1 k2
    have s1 := (Hp.get_add b3).1
    have s2 := (Hp.get_add m3).1
    obtain ⟨_, _, t3⟩ := D.at_rec hr
    obtain ⟨t3, t4⟩ := t3 hkn
    rcases Nat.lt_trichotomy r'.p r.p with h | h | h
    · have := D.nx_mono (show r'.p + 1 ≤ r.p by omega) q2
      rw [c3, q1] at this
      omega
    · exact absurd (D.same_p k1 hr k2' hkn h) k3
    · have := D.nx_mono (show r.p + 1 ≤ r'.p by omega) c2
      rw [t3, c1] at this
      omega
  have hg : ∀ (i' : Nat) (r' : Rec), rs[i']? = some r' → r'.k = .alloc → j ≤ r'.p → Lst listed i' → E'.blk r'.H.nx = E.blk r'.H.nx ∧ E'.cap r'.H.nx = E.cap r'.H.nx := by
    intro i' r' k1 k2 _ k4
    refine ⟨helse _ (hnm i' r' k1 k2 ?_), hcap _⟩
    intro e; subst e; exact hl k4
  obtain ⟨on1, on2, on3⟩ := I.keeps D hT0 x2 hg
  have hval : f w.heap.size = den σ E' r.v := by rw [m4, f2, hblk]
  obtain ⟨p1, p2, p3, p4⟩ := I.put_val D hr on2 on3
  have hreal : realO σ E ob = realO σ E' ob := by
    cases ob with
    | cells c fx e =>
      have hm : c.map (den σ E') = c.map (den σ E) := by
        refine List.map_congr_left fun x hx => den_ext xn deep x ?_
        exact List.all_eq_true.1 m2 x hx
      simp only [realO, hm]
    | map es cl =>
      have hm : es.map (denE σ E') = es.map (denE σ E) := by
        refine List.map_congr_left fun x hx => ?_
        have := List.all_eq_true.1 m2 x hx
        simp only [okE, Bool.and_eq_true] at this
        simp only [denE, den_ext xn deep _ this.1, den_ext xn deep _ this.2]
      simp only [realO, hm]
    | iter m since seen last =>
      have hm := iter_ext xn m2
      simp only [realO, hm]
  have I' : InvW σ ops M rs hs T0 H0 E0 w0 a0 (listed.setIfInBounds i true) (a.put r.o.dst (den σ E' r.v)) { w with heap := w.heap.push (realO σ E ob) } j E' := by
    refine ⟨I.jlt, by simpa using I.size, I.clo_set D hr he, ?_, ?_, ?_, ?_, ?_, p1, p2, p3, p4, I.xlt⟩
    · intro i' r' k1 k2 k3
      rw [lst_set hi]
      exact .inr (I.pre i' r' k1 k2 k3)
    · intro i' r' k1 k2 k3 k4
      rw [lst_set hi] at k4
      by_cases e : i' = i
      · subst e
        rw [hr] at k1
        cases k1
        refine ⟨hk, ?_, ?_, ?_, ob, m3, m2, m5, ?_⟩
        · rw [hblk]; simp
        · rw [hblk]; exact I.fr.size
        · intro b o hb
          have hlt := I.rel.lt b o hb
          have hl2 := I.rel.heap_lt hb
          rw [hblk, helse b (by omega)]
          omega
        · rw [hblk]
          show ObjRel σ E' r.H.nx ob (w.heap.push (realO σ E ob))[w.heap.size]?
          rw [Array.getElem?_push_size, hreal]
          exact realO_rel E' _ hnf
      · have k4 := k4.resolve_left e
        obtain ⟨hk', d1, d2, d3, ob', d4, d5, d6, d7⟩ := I.early i' r' k1 k2 k3 k4
        have hbl := hg i' r' k1 hk' k3 k4
        refine ⟨hk', ?_, ?_, ?_, ob', d4, d5, d6, ?_⟩
        · rw [hbl.1]; simp; omega
        · rw [hbl.1]; exact d2
        · intro b o hb
          rw [hbl.1, (x2 b (I.rel.lt b o hb)).1]
          exact d3 b o hb
        · rw [hbl.1]
          show ObjRel σ E' r'.H.nx ob' (w.heap.push (realO σ E ob))[E.blk r'.H.nx]?
          rw [Array.getElem?_push, if_neg (by omega)]
          exact d7.on (on1 i' r' k1 k4) d6 hbl.2
    · intro i1 i2 r1 r2 a1 a2 a3 a4 a5 a6 a7 a8 a9
      rw [lst_set hi] at a7 a8
      by_cases n1 : i1 = i
      · by_cases n2 : i2 = i
        · omega
        · have b8 := a8.resolve_left n2
          obtain ⟨hk', d1, _⟩ := I.early i2 r2 a2 a4 a6 b8
          have c8 := (hg i2 r2 a2 hk' a6 b8).1
          subst n1
          rw [hr] at a1
          cases a1
          rw [hblk, c8] at a9
          omega
      · have b7 := a7.resolve_left n1
        obtain ⟨hk1, d1, _⟩ := I.early i1 r1 a1 a3 a5 b7
        have c7 := (hg i1 r1 a1 hk1 a5 b7).1
        by_cases n2 : i2 = i
        · subst n2
          rw [hr] at a2
          cases a2
          rw [hblk, c7] at a9
          omega
        · have b8 := a8.resolve_left n2
          obtain ⟨hk2, _⟩ := I.early i2 r2 a2 a4 a6 b8
          rw [c7, (hg i2 r2 a2 hk2 a6 b8).1] at a9
          exact I.gdist i1 i2 r1 r2 a1 a2 a3 a4 a5 a6 b7 b8 a9
    · exact (I.rel.congr x2).push _
    · exact (I.fr.congr I.rel x2).push _
  have N' : Nxt rs (listed.setIfInBounds i true) j := by
    intro i' r' k1 k2 k3 k4
    rw [lst_set hi] at k4
    rcases k4 with k4 | k4
    · subst k4
      rw [hr] at k1
      cases k1
      omega
    · exact hn i' r' k1 k2 k3 k4
  have := hK _ _ _ _ I' N'
  rw [← hval] at this
  exact this
end
end Go.Proofs.Ytnjfbcoddbeggaa.Sx
