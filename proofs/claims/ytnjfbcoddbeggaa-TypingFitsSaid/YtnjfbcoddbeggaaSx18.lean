/-
  Runs of closed code: a region whose order is open comes, in each order, to what it comes to in the order of its text (4).
-/
import Derived.Test.YtnjfbcoddbeggaaSx17
namespace Go.Proofs.Ytnjfbcoddbeggaa.Sx
open Go
variable {σ : Sg}

section
variable {P : Program} {tb : Tab} {F : Fun} {ops : Array Oper} {M : List Nat} {rs : List Rec} {hs : List Hp} {T0 T2 : Tm} {H0 H2 : Hp}
variable {E0 : Env} {w0 : World} {a0 : Act} {listed : Array Bool} {a : Act} {w : World} {j : Nat} {E : Env}

/-- a value that leaves memory alone -/
theorem step_still (D : DSet σ P tb F ops M rs hs T0 T2 H0 H2) (I : InvW σ ops M rs hs T0 H0 E0 w0 a0 listed a w j E) (hn : Nxt rs listed j) {i : Nat} {r : Rec} (hr : rs[i]? = some r)
    (hl : ¬ Lst listed i) (he : ∀ e ∈ r.o.after, Region.binds .any e = true → Lst listed e.on) (hk : r.k = .pure) {K : Act → World → Prop}
    (hK : ∀ a' w' j' E', InvW σ ops M rs hs T0 H0 E0 w0 a0 (listed.setIfInBounds i true) a' w' j' E' → Nxt rs (listed.setIfInBounds i true) j' → K a' w') : K (a.put r.o.dst (den σ E r.v)) w := by
  have ho := D.opOf hr
  have hi : i < listed.size := by rw [I.size]; exact (Array.getElem?_eq_some_iff.1 ho).1
  obtain ⟨p1, p2, p3, p4⟩ := I.put_val D hr (E' := E) (fun _ _ _ _ => rfl) (fun _ => rfl)
  have hne : ∀ (i' : Nat) (r' : Rec), rs[i']? = some r' → r'.k ≠ .pure → i' ≠ i := by
    intro i' r' k1 k2 e
    subst e
    rw [hr] at k1
    cases k1
    exact k2 hk
  refine hK _ _ j E ⟨I.jlt, by simpa using I.size, I.clo_set D hr he, ?_, ?_, ?_, I.rel, I.fr, p1, p2, p3, p4, I.xlt⟩ ?_
  · intro i' r' k1 k2 k3
    rw [lst_set hi]
    exact .inr (I.pre i' r' k1 k2 k3)
  · intro i' r' k1 k2 k3 k4
    rw [lst_set hi] at k4
    exact I.early i' r' k1 k2 k3 (k4.resolve_left (hne i' r' k1 k2))
  · intro i1 i2 r1 r2 a1 a2 a3 a4 a5 a6 a7 a8 a9
    rw [lst_set hi] at a7 a8
    exact I.gdist i1 i2 r1 r2 a1 a2 a3 a4 a5 a6 (a7.resolve_left (hne i1 r1 a1 a3)) (a8.resolve_left (hne i2 r2 a2 a4)) a9
  · intro i' r' k1 k2 k3 k4
    rw [lst_set hi] at k4
    exact hn i' r' k1 k2 k3 (k4.resolve_left (hne i' r' k1 k2))

/-- its value is the same wherever it is made -/
theorem pure_at (D : DSet σ P tb F ops M rs hs T0 T2 H0 H2) (I : InvW σ ops M rs hs T0 H0 E0 w0 a0 listed a w j E) {i : Nat} {r : Rec} (hr : rs[i]? = some r)
    (hl : ¬ Lst listed i) (he : ∀ e ∈ r.o.after, Region.binds .any e = true → Lst listed e.on) (hk : r.k = .pure) (hw : r.w = true) : pureE tb (hAt H0 hs j) r.o.op r.vs = some r.v := by
  have ho := D.opOf hr
  have hi : i < ops.size := (Array.getElem?_eq_some_iff.1 ho).1
  obtain ⟨_, g2, _, _, _⟩ := (D.recs.get i r hr).1
  obtain ⟨_, e2, _⟩ := g2 hw
  rw [hk] at e2
  have hp := (opE_pure e2).1
  obtain ⟨q1, _, _⟩ := D.at_rec hr
  rcases (D.dyn_at hr).2.1 hk hw with h | h
  · rw [stillOp_eq h _ r.H]; exact hp
  · have hlo : loE (slE rs M) i (M.getD i 0) ≤ j := by
      refine loE_le _ ?_
      rintro ⟨i', m', r'⟩ hx hk' hanc
      obtain ⟨x1, x2, _⟩ := mem_slE.1 hx
      dsimp only at hk' hanc ⊢
      have hls : Lst listed i' := by
        rcases hanc with e | hb
        · subst e
          rw [hr] at x1
          cases x1
          exact absurd hk x2
        · exact D.anc I.clo i i' hi (fun o ho2 => by rw [ho] at ho2; cases ho2; exact he) hb
      rcases Nat.lt_or_ge r'.p j with h | h
      · omega
      · have := (I.early i' r' x1 x2 h hls).1
        rw [hk'] at this; cases this
    have hhi : j ≤ hiE (slE rs M) i (hs.length - 1) := by
      refine le_hiE (by have := I.jlt; omega) _ ?_
      rintro ⟨i', m', r'⟩ hx hk' hb
      obtain ⟨x1, x2, x3⟩ := mem_slE.1 hx
      dsimp only at hk' hb ⊢
      rw [x3] at hb
      rcases Nat.lt_or_ge r'.p j with h | h
      · have hls := I.pre i' r' x1 x2 h
        have ho' := D.opOf x1
        have hi' : i' < ops.size := (Array.getElem?_eq_some_iff.1 ho').1
        exact absurd (D.anc I.clo i' i hi' (fun o ho2 => I.clo i' o hls ho2) hb) hl
      · exact h
    unfold rangeE at h
    have := List.all_eq_true.1 h j (List.mem_range.2 (by omega))
    simp only [Bool.or_eq_true] at this
    rcases this with h1 | h1 | h1
    · rw [Nat.blt_eq] at h1; omega
    · have := Nat.eq_of_beq_eq_true h1
      rw [this, q1]; exact hp
    · cases hq : pureE tb (hAt H0 hs j) r.o.op r.vs with
      | none => rw [hq] at h1; cases h1
      | some v =>
        rw [hq] at h1
        rw [(vEq_both 60).1 _ _ h1]

theorem countP_lt {α : Type} {p q : α → Bool} : ∀ (l : List α), (∀ x ∈ l, q x = true → p x = true) → (∃ x ∈ l, p x = true ∧ q x = false) → l.countP q < l.countP p := by
  intro l
  induction l with
  | nil => intro _ h; obtain ⟨x, hx, _⟩ := h; cases hx
  | cons y l ih =>
    intro h1 h2
    have hle : l.countP q ≤ l.countP p := List.countP_mono_left (fun x hx => h1 x (List.mem_cons_of_mem _ hx))
    simp only [List.countP_cons]
    obtain ⟨x, hx, hp, hq⟩ := h2
    rcases List.mem_cons.1 hx with rfl | hx
    · rw [hp, hq]; simp; omega
    · have := ih (fun x hx => h1 x (List.mem_cons_of_mem _ hx)) ⟨x, hx, hp, hq⟩
      have hy := h1 y List.mem_cons_self
      cases hqy : q y with
      | true => rw [hy hqy]; simp; omega
      | false => simp; split <;> omega

theorem drawn_any (D : DSet σ P tb F ops M rs hs T0 T2 H0 H2) (hT0 : OkT H0.nx T0) {Q : Exit → Act → World → Prop}
    (hQ : ∀ E' a' w', Rel σ E' H2 w' → TmRel σ E' T2 a' → Fr E0 H0 w0 E' H2 w' → a'.defers = a0.defers → Q .normal a' w') :
    ∀ (fuel : Nat) (listed : Array Bool) (a : Act) (w : World) (j : Nat) (E : Env), (List.range ops.size).countP (fun i => !listed.getD i false) ≤ fuel → InvW σ ops M rs hs T0 H0 E0 w0 a0 listed a w j E → Nxt rs listed j → wpAny P .any ops Q fuel listed a w := by
  have fin : ∀ (listed : Array Bool) (a : Act) (w : World) (j : Nat) (E : Env), InvW σ ops M rs hs T0 H0 E0 w0 a0 listed a w j E → Nxt rs listed j → (∀ i, i < ops.size → Lst listed i) → Q .normal a w := by
    intro listed a w j E I hn hall
    have hj : j = hs.length - 1 := by
      rcases Nat.lt_or_ge (j + 1) hs.length with h | h
      · obtain ⟨i, r, h1, h2, h3⟩ := D.recs.pos.2.2.2.2 j (Nat.zero_le _) (by omega)
        exact absurd (hall i (Array.getElem?_eq_some_iff.1 (D.opOf h1)).1) (hn i r h1 h2 h3)
      · have := I.jlt; omega
    have hH2 : hAt H0 hs j = H2 := by
      rw [hj]; exact (hAt_of D.recs.pos.2.2.1).1
    have hrel := I.rel
    have hfr := I.fr
    rw [hH2] at hrel hfr
    refine hQ E a w hrel ⟨I.tsz.trans D.recs.tmps.2.2.2.2.2.symm, fun t => ?_⟩ hfr I.dfr
    by_cases hex : ∃ (i : Nat) (r : Rec), rs[i]? = some r ∧ r.o.dst = some t
    · obtain ⟨i, r, h1, h2⟩ := hex
      have ho := D.opOf h1
      rw [D.recs.tmps.2.2.2.1 t i r h1 h2 (fun i'' r'' k1 k2 k3 => ((D.stat_at ho).2.2 i'' r''.o (D.opOf k2) (by omega) t k3).1 h2)]
      exact I.val i r t h1 (hall i (Array.getElem?_eq_some_iff.1 ho).1) h2
    · have hno : ∀ (i : Nat) (r : Rec), rs[i]? = some r → r.o.dst ≠ some t := fun i r h1 h2 => hex ⟨i, r, h1, h2⟩
      rw [D.recs.tmps.2.2.1 t hno]
      exact I.old t fun i r h1 _ => hno i r h1
  have ready_all : ∀ (listed : Array Bool) (a : Act) (w : World) (j : Nat) (E : Env), InvW σ ops M rs hs T0 H0 E0 w0 a0 listed a w j E → Region.ready .any ops listed = [] → ∀ i, i < ops.size → Lst listed i := by
    intro listed a w j E I hr i
    induction i using Nat.strongRecOn with
    | _ i ih =>
      intro hi
      by_cases hl : Lst listed i
      · exact hl
      · exfalso
        have ho := Array.getElem?_eq_getElem hi
        have hm : i ∈ Region.ready .any ops listed := by
          rw [mem_ready]
          refine ⟨?_, ops[i], ho, fun e he hb => ?_⟩
          · have hsz : i < listed.size := by rw [I.size]; exact hi
            unfold Lst at hl
            simp [hsz] at hl ⊢
            exact hl
          · have := (D.stat_at ho).2.1 e he hb
            exact ih e.on this (by omega)
        rw [hr] at hm
        cases hm
  intro fuel
  induction fuel with
  | zero =>
    intro listed a w j E hc I hn
    have hall : ∀ i, i < ops.size → Lst listed i := by
      intro i hi
      have := List.countP_eq_zero.1 (Nat.le_zero.1 hc) i (List.mem_range.2 hi)
      unfold Lst
      simpa using this
    refine ⟨?_, fin listed a w j E I hn hall⟩
    apply List.eq_nil_iff_forall_not_mem.2
    intro i hi
    rw [mem_ready] at hi
    obtain ⟨h1, o, h2, _⟩ := hi
    have hlt := (Array.getElem?_eq_some_iff.1 h2).1
    have := hall i hlt
    have hsz : i < listed.size := by rw [I.size]; exact hlt
    unfold Lst at this
    simp [hsz] at this h1
    rw [this] at h1
    cases h1
  | succ fuel ih =>
    intro listed a w j E hc I hn
    refine ⟨fun hr => fin listed a w j E I hn (ready_all listed a w j E I hr), fun i hi => ?_⟩
    rw [mem_ready] at hi
    obtain ⟨h1, o, h2, h3⟩ := hi
    have hlt := (Array.getElem?_eq_some_iff.1 h2).1
    have hsz : i < listed.size := by rw [I.size]; exact hlt
    have hl : ¬ Lst listed i := by
      unfold Lst
      simp [hsz] at h1 ⊢
      exact h1
    obtain ⟨r, hr, hro⟩ := D.recOp h2
    subst hro
    have hK : ∀ a' w' j' E', InvW σ ops M rs hs T0 H0 E0 w0 a0 (listed.setIfInBounds i true) a' w' j' E' → Nxt rs (listed.setIfInBounds i true) j' → wpAny P .any ops Q fuel (listed.setIfInBounds i true) a' w' := by
      intro a' w' j' E' I' N'
      refine ih _ _ _ _ _ ?_ I' N'
      have hdec : (List.range ops.size).countP (fun k => !(listed.setIfInBounds i true).getD k false) < (List.range ops.size).countP (fun k => !listed.getD k false) := by
        refine countP_lt _ ?_ ⟨i, List.mem_range.2 hlt, ?_, ?_⟩
        · intro k _ hk
          by_cases e : k = i
          · subst e; simp [hsz] at hk
          · simpa [Array.getElem?_setIfInBounds_ne (Ne.symm e)] using hk
        · unfold Lst at hl; simpa using hl
        · simp [hsz]
      omega
    have hag := I.agree D hr hl h3
    obtain ⟨⟨g1, gk⟩, g2, g3, _, T', hT'⟩ := (D.recs.get i r hr).1
    have hTn := D.recs.tmps.2.2.2.2.1 i r hr
    have hgd := guard_sound (E := E) (a := a) (T := r.T) (ops := ops) (o := r.o) (by rw [hTn]; exact I.tsz) gk (fun j' want d hg hd => hag d (by
      unfold Oper.looksAt
      rw [hg]
      refine List.mem_append_right _ ?_
      simp only
      rw [hd]
      simp))
    unfold wpOp
    rw [h2]
    dsimp only
    rw [hgd, g1]
    cases hw : r.w with
    | false =>
      simp only [Bool.false_eq_true, if_false]
      have := step_still D I hn hr hl h3 (g3 hw).2 hK
      rw [(g3 hw).1, den_undef] at this
      exact this
    | true =>
      simp only [if_true]
      left
      obtain ⟨e1, e2, e3⟩ := g2 hw
      cases hk : r.k with
      | pure =>
        have hv := evL_part (a := a) (E := E) _ _ (fun t ht => hag t (List.mem_append_left _ (List.mem_filterMap.2 ⟨.tmp t, ht, rfl⟩))) e1
        have hp := pure_at D I hr hl h3 hk hw
        unfold Oper.wp
        rw [pure_sound D.htb I.rel hv hp]
        exact step_still D I hn hr hl h3 hk hK
      | alloc =>
        have hkn : r.k ≠ .pure := by rw [hk]; simp
        rcases Nat.lt_trichotomy r.p j with h | h | h
        · exact absurd (I.pre i r hr hkn h) hl
        · exact step_turn D hT0 I hn hr hl h3 hkn h hK
        · exact step_early D hT0 I hn hr hl h3 hk h hK
      | chain =>
        have hkn : r.k ≠ .pure := by rw [hk]; simp
        rcases Nat.lt_trichotomy r.p j with h | h | h
        · exact absurd (I.pre i r hr hkn h) hl
        · exact step_turn D hT0 I hn hr hl h3 hkn h hK
        · exfalso
          obtain ⟨_, q2, q3⟩ := D.at_rec hr
          obtain ⟨i', r', k1, k2, k3⟩ := D.recs.pos.2.2.2.2 j (Nat.zero_le _) (by have := (q3 hkn).2; omega)
          rcases ((D.dyn_at hr).2.2.2 hk).2 i' r' k1 k2 with h' | h'
          · omega
          · exact hn i' r' k1 k2 k3 (D.anc I.clo i i' hlt (fun o ho2 => by rw [h2] at ho2; cases ho2; exact h3) h')

/-! ### regions whose order is open -/
noncomputable def drawnE (tb : Tab) (F : Fun) (ops : Array Oper) (T : Tm) (H : Hp) : Option (Tm × Hp) :=
  match recE tb F ops ops.toList T H 0 with
  | some (rs, hs, T2, H2) => bif statE ops (masksE ops.toList []) && dynE tb H rs hs (masksE ops.toList []) (slE rs (masksE ops.toList [])) then some (T2, H2) else none
  | none => none

theorem drawn_wp (htb : tb.Ok σ P) (hF : FunOk σ P F) {id : Nat} {T' : Tm} {H' : Hp} (he : drawnE tb F ops T0 H0 = some (T', H')) (h : Rel σ E H0 w) (hT : TmRel σ E T0 a) (hO : OkT H0.nx T0) {Q : Exit → Act → World → Prop}
    (hQ : ∀ E' a' w', Rel σ E' H' w' → TmRel σ E' T' a' → OkT H'.nx T' → Fr E H0 w E' H' w' → a'.defers = a.defers → Q .normal a' w') : (Code.region id ops true).wp P Q a w := by
  unfold drawnE at he
  cases hr : recE tb F ops ops.toList T0 H0 0 with
  | none => rw [hr] at he; cases he
  | some q =>
    obtain ⟨rs, hs, T2, H2⟩ := q
    rw [hr] at he
    dsimp only at he
    cases hc : (statE ops (masksE ops.toList []) && dynE tb H0 rs hs (masksE ops.toList []) (slE rs (masksE ops.toList []))) with
    | false => rw [hc] at he; cases he
    | true =>
      rw [hc] at he
      simp only [Bool.and_eq_true] at hc
      cases he
      have hrecs := recs_of _ _ _ _ _ _ _ _ hr
      have D : DSet σ P tb F ops (masksE ops.toList []) rs hs T0 T' H0 H' := ⟨htb, hF, hrecs, hc.1, hc.2⟩
      have hok := (recs_okT hrecs D.mono1 hO).2
      have hdr : Rel σ E H0 { w with drawn := w.drawn + 1 } := h.drew _
      have hno : ∀ i, ¬ Lst (Array.replicate ops.size false) i := by
        intro i hl
        unfold Lst at hl
        rw [Array.getD_eq_getD_getElem?] at hl
        by_cases hi : i < ops.size
        · simp [hi] at hl
        · simp [hi] at hl
      refine wp_region_any htb.mixed (drawn_any (E0 := E) (w0 := w) (a0 := a) D hO ?_ _ _ _ _ 0 E ?_ ?_ ?_)
      · intro E' a' w' r1 r2 r3 r4
        exact hQ E' a' w' r1 r2 hok r3 r4
      · have := List.countP_le_length (p := fun i => !(Array.replicate ops.size false).getD i false) (l := List.range ops.size)
        simpa using this
      · refine ⟨D.h0.2, by simp, fun i o hl => absurd hl (hno i), fun i r _ _ hp => by omega, fun i r _ _ _ hl => absurd hl (hno i), fun i i' r r' _ _ _ _ _ _ hl => absurd hl (hno i), ?_, ?_, fun i r d _ hl => absurd hl (hno i), fun t _ => hT.2 t, hT.1, rfl, fun p hp => (Array.getElem?_eq_some_iff.1 (h.ext p hp).1).1⟩
        · rw [D.h0.1]; exact hdr
        · rw [D.h0.1]; exact (Fr.refl E H0 w).drew _
      · intro i r _ _ _ hl
        exact hno i hl
end
end Go.Proofs.Ytnjfbcoddbeggaa.Sx
