/-
  Runs of closed code: a region whose order is open comes, in each order, to what it comes to in the order of its text.
-/
import Derived.Test.YtnjfbcoddbeggaaSx14
namespace Go.Proofs.Ytnjfbcoddbeggaa.Sx
open Go
variable {σ : Sg}

/-! ### What is looked at -/
noncomputable def ancE (M : List Nat) : List Edge → Nat
  | [] => 0
  | e :: es => bif Region.binds .any e then (2 ^ e.on ||| M.getD e.on 0) ||| ancE M es else ancE M es
noncomputable def masksE : List Oper → List Nat → List Nat
  | [], M => M
  | o :: os, M => masksE os (M ++ [ancE M o.after.toList])

theorem ancE_bit (M : List Nat) (j : Nat) : ∀ (es : List Edge), (ancE M es).testBit j = true → ∃ e ∈ es, Region.binds .any e = true ∧ (e.on = j ∨ (M.getD e.on 0).testBit j = true) := by
  intro es
  induction es with
  | nil => intro h; simp [ancE] at h
  | cons e es ih =>
    intro h
    simp only [ancE] at h
    cases hb : Region.binds .any e with
    | false =>
      rw [hb] at h
      obtain ⟨e', h1, h2⟩ := ih h
      exact ⟨e', List.mem_cons_of_mem _ h1, h2⟩
    | true =>
      rw [hb] at h
      simp only [cond_true, Nat.testBit_or, Bool.or_eq_true] at h
      rcases h with (h | h) | h
      · refine ⟨e, List.mem_cons_self, hb, .inl ?_⟩
        rw [Nat.testBit_two_pow] at h
        simpa using h
      · exact ⟨e, List.mem_cons_self, hb, .inr h⟩
      · obtain ⟨e', h1, h2⟩ := ih h
        exact ⟨e', List.mem_cons_of_mem _ h1, h2⟩

noncomputable def bitE (m i : Nat) : Bool := Nat.testBit m i
/-- what does not hang on a run -/
noncomputable def statE (ops : Array Oper) (M : List Nat) : Bool :=
  ops.toList.zipIdx.all fun (o, i) =>
    Nat.beq (M.getD i 0) (ancE M o.after.toList) &&
    (o.after.toList.all (fun e => !Region.binds .any e || Nat.blt e.on i) &&
    ops.toList.zipIdx.all fun (o', i') => Nat.beq i' i || (match o'.dst with
      | none => true
      | some d => (match o.dst with
        | some d' => !Nat.beq d d'
        | none => true) && ((o.looksAt ops).all (fun t => !Nat.beq t d) || (bitE (M.getD i 0) i' || bitE (M.getD i' 0) i))))

noncomputable def slE (rs : List Rec) (M : List Nat) : List (Nat × Nat × Rec) := rs.zipIdx.filterMap fun (r, i) => match r.k with
  | .pure => none
  | _ => some (i, M.getD i 0, r)
noncomputable def loE (sl : List (Nat × Nat × Rec)) (i m : Nat) : Nat := sl.foldr (fun x acc => bif x.2.2.isC && (Nat.beq x.1 i || bitE m x.1) then max acc (x.2.2.p + 1) else acc) 0
noncomputable def hiE (sl : List (Nat × Nat × Rec)) (i top : Nat) : Nat := sl.foldr (fun x acc => bif x.2.2.isC && bitE x.2.1 i then min acc x.2.2.p else acc) top
noncomputable def hAt (H0 : Hp) (hs : List Hp) (q : Nat) : Hp := hs.getD q H0
noncomputable def pmE (H0 : Hp) (hs : List Hp) (sl : List (Nat × Nat × Rec)) (i m : Nat) : Nat → Bool := fun b =>
  Nat.blt b (hAt H0 hs (loE sl i m)).nx || sl.any fun x => x.2.2.isA && ((Nat.beq x.1 i || bitE m x.1) && Nat.beq b x.2.2.H.nx)
noncomputable def okOP (p : Nat → Bool) : AO → Bool
  | .cells c _ _ => c.all (okP deep p)
  | .map es _ => es.all fun e => okP deep p e.key && okP deep p e.val
  | .iter m _ _ _ => (match m with
    | none => true
    | some r => p r)
noncomputable def stillOp : Op → Bool
  | .load _ _ => false
  | .lookup _ _ _ _ => false
  | .convert _ _ _ => false
  | .slice _ _ _ _ _ => false
  | .call _ => false
  | _ => true
theorem stillOp_eq {tb : Tab} {op : Op} (h : stillOp op = true) (H H' : Hp) (vs : List Value) : pureE tb H op vs = pureE tb H' op vs := by
  cases op <;> first | rfl | cases h
noncomputable def rangeE (tb : Tab) (H0 : Hp) (hs : List Hp) (r : Rec) (lo hi : Nat) : Bool :=
  (List.range (hi + 1)).all fun q => Nat.blt q lo || (Nat.beq q r.p || (match pureE tb (hAt H0 hs q) r.o.op r.vs with
    | some v => vEq 60 v r.v
    | none => false))
/-- what hangs on a run -/
noncomputable def dynE (tb : Tab) (H0 : Hp) (rs : List Rec) (hs : List Hp) (M : List Nat) (sl : List (Nat × Nat × Rec)) : Bool :=
  rs.zipIdx.all fun (r, i) => okP deep (pmE H0 hs sl i (M.getD i 0)) r.v && (match r.k with
    | .pure => !r.w || (stillOp r.o.op || rangeE tb H0 hs r (loE sl i (M.getD i 0)) (hiE sl i (hs.length - 1)))
    | .alloc => Nat.ble r.H.nx r.H'.nx && (match r.H'.get r.H.nx with
      | some ob => okOP (pmE H0 hs sl i (M.getD i 0)) ob
      | none => false)
    | .chain => Nat.ble r.H.nx r.H'.nx && sl.all fun x => Nat.ble r.p x.2.2.p || bitE (M.getD i 0) x.1)

/-! ### Memory that is turned beside what is known -/
section
variable {P : Program} {tb : Tab} {F : Fun} {E E' : Env} {H H' : Hp} {w w' : World}
theorem Rel.congr (h : Rel σ E H w) (he : Env.Ext H.nx E E') : Rel σ E' H w := by
  refine ⟨?_, ?_, h.lt, h.ok, fun p hp => ⟨(h.ext p hp).1, fun b hb => by
    obtain ⟨o, g⟩ := Option.isSome_iff_exists.1 hb
    rw [(he b (h.lt b o g)).1]
    exact (h.ext p hp).2 b hb⟩⟩
  · intro b o hb
    have hl := h.lt b o hb
    rw [(he b hl).1]
    exact (h.blk b o hb).ext he hl (h.ok b o hb)
  · intro b b' h1 h2 e
    obtain ⟨o1, g1⟩ := Option.isSome_iff_exists.1 h1
    obtain ⟨o2, g2⟩ := Option.isSome_iff_exists.1 h2
    rw [(he b (h.lt b o1 g1)).1, (he b' (h.lt b' o2 g2)).1] at e
    exact h.inj b b' h1 h2 e
theorem Fr.congr {E0 : Env} {H0 : Hp} {w0 : World} (h : Fr E0 H0 w0 E H w) (hr : Rel σ E H w) (he : Env.Ext H.nx E E') : Fr E0 H0 w0 E' H w where
  os := h.os
  tape := h.tape
  output := h.output
  size := h.size
  keep := h.keep
  img b hb := by
    obtain ⟨o, g⟩ := Option.isSome_iff_exists.1 hb
    rw [(he b (hr.lt b o g)).1]
    exact h.img b hb
  ext b hb := by
    have := he b (Nat.lt_of_lt_of_le hb h.nx)
    exact ⟨this.1.trans (h.ext b hb).1, this.2.trans (h.ext b hb).2⟩
  nx := h.nx
theorem Rel.push (h : Rel σ E H w) (o : Obj) : Rel σ E H { w with heap := w.heap.push o } := by
  refine ⟨?_, h.inj, h.lt, h.ok, fun p hp => ⟨?_, (h.ext p hp).2⟩⟩
  rotate_left
  · have h1 := (h.ext p hp).1
    have hlt : p.1 < w.heap.size := by
      rcases Nat.lt_or_ge p.1 w.heap.size with hl | hl
      · exact hl
      · rw [Array.getElem?_eq_none hl] at h1; cases h1
    show (w.heap.push o)[p.1]? = some p.2
    rw [Array.getElem?_push, if_neg (by omega)]
    exact h1
  intro b ob hb
  have hl := h.heap_lt hb
  show ObjRel σ E b ob (w.heap.push o)[E.blk b]?
  rw [Array.getElem?_push, if_neg (by omega)]
  exact h.blk b ob hb
theorem Fr.push {E0 : Env} {H0 : Hp} {w0 : World} (h : Fr E0 H0 w0 E H w) (o : Obj) : Fr E0 H0 w0 E H { w with heap := w.heap.push o } where
  os := h.os
  tape := h.tape
  output := h.output
  size := by simp; have := h.size; omega
  keep g hg hn := by
    show (w.heap.push o)[g]? = _
    have := h.size
    rw [Array.getElem?_push, if_neg (by omega)]
    exact h.keep g hg hn
  img := h.img
  ext := h.ext
  nx := h.nx
/-- a block that was made ahead of its time has its name -/
theorem Rel.absorb {ob : AO} (h : Rel σ E H w) (ha : H.add ob = some H') (hok : okO H.nx ob = true) (hr : ObjRel σ E H.nx ob w.heap[E.blk H.nx]?)
    (hi : ∀ b o, H.get b = some o → E.blk b ≠ E.blk H.nx) (hx : ∀ p ∈ σ.x, E.blk H.nx ≠ p.1) : Rel σ E H' w := by
  obtain ⟨hn, hg⟩ := Hp.get_add ha
  refine ⟨?_, ?_, ?_, ?_, fun p hp => ⟨(h.ext p hp).1, fun b hb => by
    rw [hg] at hb
    by_cases e : b = H.nx
    · rw [e]; exact hx p hp
    · rw [if_neg e] at hb; exact (h.ext p hp).2 b hb⟩⟩
  · intro b o hb
    rw [hg] at hb
    by_cases e : b = H.nx
    · rw [if_pos e] at hb; cases hb; rw [e]; exact hr
    · rw [if_neg e] at hb; exact h.blk b o hb
  · intro b b' h1 h2 e
    rw [hg] at h1 h2
    by_cases e1 : b = H.nx
    · by_cases e2 : b' = H.nx
      · omega
      · rw [if_neg e2] at h2
        obtain ⟨o, g⟩ := Option.isSome_iff_exists.1 h2
        rw [e1] at e
        exact absurd e.symm (hi b' o g)
    · rw [if_neg e1] at h1
      by_cases e2 : b' = H.nx
      · obtain ⟨o, g⟩ := Option.isSome_iff_exists.1 h1
        rw [e2] at e
        exact absurd e (hi b o g)
      · rw [if_neg e2] at h2
        exact h.inj b b' h1 h2 e
  · intro b o hb
    rw [hg] at hb
    by_cases e : b = H.nx
    · omega
    · rw [if_neg e] at hb; have := h.lt b o hb; omega
  · intro b o hb
    rw [hg] at hb
    by_cases e : b = H.nx
    · rw [if_pos e] at hb; cases hb; exact okO_mono (by omega) hok
    · rw [if_neg e] at hb; exact okO_mono (by omega) (h.ok b o hb)
theorem Fr.absorb {E0 : Env} {H0 : Hp} {w0 : World} {ob : AO} (h : Fr E0 H0 w0 E H w) (ha : H.add ob = some H') (hb : w0.heap.size ≤ E.blk H.nx) : Fr E0 H0 w0 E H' w := by
  obtain ⟨hn, hg⟩ := Hp.get_add ha
  refine ⟨h.os, h.tape, h.output, h.size, h.keep, ?_, h.ext, ?_⟩
  · intro b hbs
    rw [hg] at hbs
    by_cases e : b = H.nx
    · rw [e]; exact .inr hb
    · rw [if_neg e] at hbs; exact h.img b hbs
  · have := h.nx; omega
theorem ObjRel.on {p : Nat → Bool} {n : Nat} {ob : AO} {r : Option Obj} (h : Env.On p E E') (ho : okOP p ob = true) (hc : E'.cap n = E.cap n) (hr : ObjRel σ E n ob r) : ObjRel σ E' n ob r := by
  cases ob with
  | cells c flex elem =>
    obtain ⟨rest, h1, h2⟩ := hr
    have hm : c.map (den σ E') = c.map (den σ E) := by
      refine List.map_congr_left fun x hx => den_on h deep x ?_
      exact List.all_eq_true.1 ho x hx
    refine ⟨rest, by rw [hm]; exact h1, ?_⟩
    cases flex with
    | none => exact h2
    | some esz => show _ = E'.cap n * esz; rw [hc]; exact h2
  | map es clock =>
    have hm : es.map (denE σ E') = es.map (denE σ E) := by
      refine List.map_congr_left fun x hx => ?_
      have := List.all_eq_true.1 ho x hx
      simp only [Bool.and_eq_true] at this
      simp only [denE, den_on h deep _ this.1, den_on h deep _ this.2]
    show r = _
    rw [hm]; exact hr
  | iter m since seen last =>
    have hm : m.map E'.blk = m.map E.blk := by
      cases m with
      | none => rfl
      | some k =>
        have h1 : p k = true := ho
        simp [(h k h1).1]
    show r = _
    rw [hm]; exact hr

theorem opE_alloc {op : Op} {vs : List Value} {v : Value} (h : opE tb F H op vs = some (.alloc, v, H')) : ∃ ob mk, allocE tb op vs = some (ob, mk) ∧ okO H.nx ob = true ∧ H.add ob = some H' ∧ v = mk H.nx := by
  unfold opE at h
  cases hp : pureE tb H op vs with
  | some v' => rw [hp] at h; cases h
  | none =>
    rw [hp] at h
    dsimp only at h
    cases ha : allocE tb op vs with
    | some q =>
      obtain ⟨ob, mk⟩ := q
      rw [ha] at h
      dsimp only at h
      cases hc : okO H.nx ob with
      | false => rw [hc] at h; cases h
      | true =>
        rw [hc] at h
        dsimp only [cond_true] at h
        cases hd : H.add ob with
        | none => rw [hd] at h; cases h
        | some H1 =>
          rw [hd] at h
          cases h
          exact ⟨ob, mk, rfl, hc, hd, rfl⟩
    | none =>
      rw [ha] at h
      dsimp only at h
      cases hh : heapE tb H op vs with
      | some q => rw [hh] at h; cases h
      | none =>
        rw [hh] at h
        dsimp only at h
        cases hcl : callE op vs with
        | none => rw [hcl] at h; cases h
        | some q =>
          obtain ⟨f, args⟩ := q
          rw [hcl] at h
          dsimp only at h
          cases hg : tb.fn.get f with
          | none => rw [hg] at h; cases h
          | some g =>
            rw [hg] at h
            dsimp only at h
            cases hr : F f args H <;> rw [hr] at h <;> cases h

/-! ### lows and highs -/
theorem mem_slE {rs : List Rec} {M : List Nat} {i m : Nat} {r : Rec} : (i, m, r) ∈ slE rs M ↔ rs[i]? = some r ∧ r.k ≠ .pure ∧ m = M.getD i 0 := by
  unfold slE
  rw [List.mem_filterMap]
  constructor
  · rintro ⟨⟨r', i'⟩, h1, h2⟩
    have h1 := List.mem_zipIdx_iff_getElem?.1 h1
    dsimp only at h2
    split at h2
    · cases h2
    · rename_i hk
      cases h2
      exact ⟨h1, hk, rfl⟩
  · rintro ⟨h1, h2, rfl⟩
    refine ⟨(r, i), List.mem_zipIdx_iff_getElem?.2 h1, ?_⟩
    dsimp only
    split
    · rename_i hk; exact absurd hk h2
    · rfl
theorem isC_ne {r : Rec} (h : r.isC = true) : r.k = .chain := by
  unfold Rec.isC at h
  split at h <;> first | assumption | cases h
theorem isA_ne {r : Rec} (h : r.isA = true) : r.k = .alloc := by
  unfold Rec.isA at h
  split at h <;> first | assumption | cases h
theorem loE_le {i m j : Nat} : ∀ (sl : List (Nat × Nat × Rec)), (∀ x ∈ sl, x.2.2.k = .chain → (x.1 = i ∨ bitE m x.1 = true) → x.2.2.p + 1 ≤ j) → loE sl i m ≤ j := by
  intro sl
  induction sl with
  | nil => intro _; exact Nat.zero_le _
  | cons x sl ih =>
    intro h
    have h1 := ih fun y hy => h y (List.mem_cons_of_mem _ hy)
    show (bif x.2.2.isC && (Nat.beq x.1 i || bitE m x.1) then max (loE sl i m) (x.2.2.p + 1) else loE sl i m) ≤ j
    cases hc : (x.2.2.isC && (Nat.beq x.1 i || bitE m x.1)) with
    | false => exact h1
    | true =>
      simp only [Bool.and_eq_true, Bool.or_eq_true, Nat.beq_eq] at hc
      have := h x List.mem_cons_self (isC_ne hc.1) hc.2
      simp only [cond_true]
      omega
theorem le_hiE {i top j : Nat} (hj : j ≤ top) : ∀ (sl : List (Nat × Nat × Rec)), (∀ x ∈ sl, x.2.2.k = .chain → bitE x.2.1 i = true → j ≤ x.2.2.p) → j ≤ hiE sl i top := by
  intro sl
  induction sl with
  | nil => intro _; exact hj
  | cons x sl ih =>
    intro h
    have h1 := ih fun y hy => h y (List.mem_cons_of_mem _ hy)
    show j ≤ (bif x.2.2.isC && bitE x.2.1 i then min (hiE sl i top) x.2.2.p else hiE sl i top)
    cases hc : (x.2.2.isC && bitE x.2.1 i) with
    | false => exact h1
    | true =>
      simp only [Bool.and_eq_true] at hc
      have := h x List.mem_cons_self (isC_ne hc.1) hc.2
      simp only [cond_true]
      omega
end
end Go.Proofs.Ytnjfbcoddbeggaa.Sx
