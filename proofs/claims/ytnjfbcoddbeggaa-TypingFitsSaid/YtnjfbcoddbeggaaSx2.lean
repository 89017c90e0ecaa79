/-
  Runs of closed code: what single steps in memory do to the names.
-/
import Derived.Test.YtnjfbcoddbeggaaSx1
namespace Go.Proofs.Ytnjfbcoddbeggaa.Sx
open Go
variable {σ : Sg}

theorem iter_ext {E E' : Env} {n : Nat} {m : Option Nat} {since last : Nat} {seen : List Nat} (h : Env.Ext n E E') (ho : okO n (.iter m since seen last) = true) : m.map E'.blk = m.map E.blk := by
  cases m with
  | none => rfl
  | some k =>
    have h1 : Nat.blt k n = true := ho
    rw [Nat.blt_eq] at h1
    simp [(h k h1).1]
theorem ObjRel.ext {E E' : Env} {n b : Nat} {o : AO} {r : Option Obj} (h : Env.Ext n E E') (hb : b < n) (ho : okO n o = true) (hr : ObjRel σ E b o r) : ObjRel σ E' b o r := by
  cases o with
  | cells c flex elem =>
    obtain ⟨rest, h1, h2⟩ := hr
    have hm : c.map (den σ E') = c.map (den σ E) := by
      refine List.map_congr_left fun x hx => den_ext h deep x ?_
      exact List.all_eq_true.1 ho x hx
    refine ⟨rest, by rw [hm]; exact h1, ?_⟩
    cases flex with
    | none => exact h2
    | some esz => show _ = E'.cap b * esz; rw [(h b hb).2]; exact h2
  | map es clock =>
    have hm : es.map (denE σ E') = es.map (denE σ E) := by
      refine List.map_congr_left fun x hx => ?_
      have := List.all_eq_true.1 ho x hx
      simp only [okE, Bool.and_eq_true] at this
      simp only [denE, den_ext h deep _ this.1, den_ext h deep _ this.2]
    show r = _
    rw [hm]; exact hr
  | iter m since seen last =>
    have hm := iter_ext h ho
    show r = _
    rw [hm]; exact hr

theorem okO_mono {n m : Nat} (h : n ≤ m) {o : AO} (ho : okO n o = true) : okO m o = true := by
  cases o with
  | cells c flex elem => exact List.all_eq_true.2 fun x hx => okV_mono h deep x (List.all_eq_true.1 ho x hx)
  | map es clock =>
    refine List.all_eq_true.2 fun x hx => ?_
    have := List.all_eq_true.1 ho x hx
    simp only [okE, Bool.and_eq_true] at *
    exact ⟨okV_mono h deep _ this.1, okV_mono h deep _ this.2⟩
  | iter mm since seen last =>
    cases mm with
    | none => rfl
    | some k =>
      have h1 : Nat.blt k n = true := ho
      show Nat.blt k m = true
      rw [Nat.blt_eq] at *
      omega

theorem Rel.heap_lt {E : Env} {H : Hp} {w : World} (h : Rel σ E H w) {b : Nat} {o : AO} (hb : H.get b = some o) : E.blk b < w.heap.size := by
  have := h.blk b o hb
  rcases Nat.lt_or_ge (E.blk b) w.heap.size with hl | hl
  · exact hl
  · rw [Array.getElem?_eq_none hl] at this
    cases o with
    | cells c flex elem => obtain ⟨_, h1, _⟩ := this; cases h1
    | map es clock => cases this
    | iter m since seen last => cases this

noncomputable def Env.upd (E : Env) (n blk cap : Nat) : Env := ⟨fun b => if b = n then blk else E.blk b, fun b => if b = n then cap else E.cap b⟩
theorem Env.upd_ext (E : Env) (n blk cap : Nat) : Env.Ext n E (E.upd n blk cap) := by
  intro b hb
  simp [Env.upd, show b ≠ n by omega]
theorem Env.upd_blk (E : Env) (n blk cap : Nat) : (E.upd n blk cap).blk n = blk := by simp [Env.upd]
theorem Env.upd_cap (E : Env) (n blk cap : Nat) : (E.upd n blk cap).cap n = cap := by simp [Env.upd]

/-- one block is turned, in place -/
theorem Rel.turn {E : Env} {H H' : Hp} {w w' : World} {b : Nat} {o o' : AO} {r : Obj} (h : Rel σ E H w) (hb : H.get b = some o) (hp : H.put b (some o') = some H')
    (hok : okO H.nx o' = true) (hr : ObjRel σ E b o' (some r)) (os : w'.os = w.os) (tape : w'.tape = w.tape) (output : w'.output = w.output)
    (size : w'.heap.size = w.heap.size) (at_ : w'.heap[E.blk b]? = some r) (else_ : ∀ g, g ≠ E.blk b → w'.heap[g]? = w.heap[g]?) :
    Rel σ E H' w' ∧ Fr E H w E H' w' := by
  obtain ⟨hn, hg⟩ := Hp.get_put hp
  have hlive : ∀ j, (H'.get j).isSome → (H.get j).isSome := by
    intro j hj
    rw [hg] at hj
    by_cases e : j = b
    · rw [e, hb]; rfl
    · rwa [if_neg e] at hj
  have hx : ∀ p ∈ σ.x, w'.heap[p.1]? = some p.2 ∧ ∀ j, (H'.get j).isSome → E.blk j ≠ p.1 := fun p hp' =>
    ⟨(else_ p.1 fun e => (h.ext p hp').2 b (by rw [hb]; rfl) e.symm).trans (h.ext p hp').1, fun j hj => (h.ext p hp').2 j (hlive j hj)⟩
  refine ⟨⟨?_, ?_, ?_, ?_, hx⟩, ⟨os, tape, output, by omega, ?_, ?_, Env.Ext.refl _ _, by omega⟩⟩
  · intro j oj hj
    rw [hg] at hj
    by_cases e : j = b
    · rw [if_pos e] at hj
      cases hj
      rw [e, at_]; exact hr
    · rw [if_neg e] at hj
      rw [else_ _ fun e' => e (h.inj j b (by rw [hj]; rfl) (by rw [hb]; rfl) e')]
      exact h.blk j oj hj
  · exact fun j k hj hk e => h.inj j k (hlive j hj) (hlive k hk) e
  · intro j oj hj
    rw [hn]
    obtain ⟨x, hx⟩ := Option.isSome_iff_exists.1 (hlive j (by rw [hj]; rfl))
    exact h.lt j x hx
  · intro j oj hj
    rw [hg] at hj
    rw [hn]
    by_cases e : j = b
    · rw [if_pos e] at hj; cases hj; exact hok
    · rw [if_neg e] at hj; exact h.ok j oj hj
  · intro g _ hne
    exact else_ g fun e => hne b (by rw [hb]; rfl) e.symm
  · exact fun j hj => .inl ⟨j, hlive j hj, rfl⟩

/-- a new block -/
theorem Rel.fresh {E : Env} {H H' : Hp} {w : World} {o : AO} {r : Obj} (cap : Nat) (h : Rel σ E H w) (hp : H.add o = some H')
    (hok : okO H.nx o = true) (hr : ObjRel σ (E.upd H.nx w.heap.size cap) H.nx o (some r)) :
    Rel σ (E.upd H.nx w.heap.size cap) H' { w with heap := w.heap.push r } ∧ Fr E H w (E.upd H.nx w.heap.size cap) H' { w with heap := w.heap.push r } := by
  obtain ⟨hn, hg⟩ := Hp.get_add hp
  have hext := Env.upd_ext E H.nx w.heap.size cap
  have hold : ∀ j, j ≠ H.nx → (E.upd H.nx w.heap.size cap).blk j = E.blk j := fun j hj => by simp [Env.upd, hj]
  have hnone : H.get H.nx = none := by
    cases hx : H.get H.nx with
    | none => rfl
    | some x => have := h.lt _ _ hx; omega
  have hx : ∀ p ∈ σ.x, (w.heap.push r)[p.1]? = some p.2 ∧ ∀ j, (H'.get j).isSome → (E.upd H.nx w.heap.size cap).blk j ≠ p.1 := fun p hp' => by
    have h1 := (h.ext p hp').1
    have hlt : p.1 < w.heap.size := by
      rcases Nat.lt_or_ge p.1 w.heap.size with hl | hl
      · exact hl
      · rw [Array.getElem?_eq_none hl] at h1; cases h1
    refine ⟨by rw [Array.getElem?_push_lt hlt, ← h1, Array.getElem?_eq_getElem hlt], fun j hj => ?_⟩
    rw [hg] at hj
    by_cases e : j = H.nx
    · rw [e, Env.upd_blk]; omega
    · rw [if_neg e] at hj
      rw [hold j e]
      exact (h.ext p hp').2 j hj
  refine ⟨⟨?_, ?_, ?_, ?_, hx⟩, ⟨rfl, rfl, rfl, by simp, ?_, ?_, hext, by omega⟩⟩
  · intro j oj hj
    rw [hg] at hj
    by_cases e : j = H.nx
    · rw [if_pos e] at hj
      cases hj
      rw [e, Env.upd_blk]
      simp only [Array.getElem?_push_size]
      exact hr
    · rw [if_neg e] at hj
      rw [hold j e]
      have hl := h.heap_lt hj
      rw [Array.getElem?_push, if_neg (by omega)]
      exact (h.blk j oj hj).ext hext (h.lt j oj hj) (h.ok j oj hj)
  · intro j k hj hk e
    by_cases e1 : j = H.nx
    · by_cases e2 : k = H.nx
      · omega
      · rw [hg, if_neg e2] at hk
        obtain ⟨x, hx⟩ := Option.isSome_iff_exists.1 hk
        have := h.heap_lt hx
        rw [e1, Env.upd_blk, hold k e2] at e
        omega
    · rw [hg, if_neg e1] at hj
      obtain ⟨x, hx⟩ := Option.isSome_iff_exists.1 hj
      have := h.heap_lt hx
      by_cases e2 : k = H.nx
      · rw [e2, Env.upd_blk, hold j e1] at e
        omega
      · rw [hg, if_neg e2] at hk
        rw [hold j e1, hold k e2] at e
        exact h.inj j k hj hk e
  · intro j oj hj
    rw [hg] at hj
    by_cases e : j = H.nx
    · omega
    · rw [if_neg e] at hj
      have := h.lt j oj hj
      omega
  · intro j oj hj
    rw [hg] at hj
    by_cases e : j = H.nx
    · rw [if_pos e] at hj; cases hj; exact okO_mono (by omega) hok
    · rw [if_neg e] at hj; exact okO_mono (by omega) (h.ok j oj hj)
  · intro g hgl _
    show (w.heap.push r)[g]? = _
    rw [Array.getElem?_push, if_neg (by omega)]
  · intro j hj
    rw [hg] at hj
    by_cases e : j = H.nx
    · right; rw [e, Env.upd_blk]; exact Nat.le_refl _
    · rw [if_neg e] at hj
      exact .inl ⟨j, hj, hold j e⟩

/-- a block is turned, in place, and has a new name -/
theorem Rel.again {E : Env} {H H1 H' : Hp} {w w' : World} {b : Nat} {o o' : AO} {r : Obj} (cap : Nat) (h : Rel σ E H w) (hb : H.get b = some o) (hp : H.put b none = some H1) (ha : H1.add o' = some H')
    (hok : okO H.nx o' = true) (hr : ObjRel σ (E.upd H.nx (E.blk b) cap) H.nx o' (some r)) (os : w'.os = w.os) (tape : w'.tape = w.tape) (output : w'.output = w.output)
    (size : w'.heap.size = w.heap.size) (at_ : w'.heap[E.blk b]? = some r) (else_ : ∀ g, g ≠ E.blk b → w'.heap[g]? = w.heap[g]?) :
    Rel σ (E.upd H.nx (E.blk b) cap) H' w' ∧ Fr E H w (E.upd H.nx (E.blk b) cap) H' w' := by
  obtain ⟨hn1, hg1⟩ := Hp.get_put hp
  obtain ⟨hn2, hg2⟩ := Hp.get_add ha
  rw [hn1] at hn2 hg2
  have hext := Env.upd_ext E H.nx (E.blk b) cap
  have hold : ∀ j, j ≠ H.nx → (E.upd H.nx (E.blk b) cap).blk j = E.blk j := fun j hj => by simp [Env.upd, hj]
  have hbl := h.lt b o hb
  have hg : ∀ j, H'.get j = if j = H.nx then some o' else if j = b then none else H.get j := by
    intro j; rw [hg2]; by_cases e : j = H.nx
    · rw [if_pos e, if_pos e]
    · rw [if_neg e, if_neg e, hg1]
  have hx : ∀ p ∈ σ.x, w'.heap[p.1]? = some p.2 ∧ ∀ j, (H'.get j).isSome → (E.upd H.nx (E.blk b) cap).blk j ≠ p.1 := fun p hp' => by
    have hne := (h.ext p hp').2 b (by rw [hb]; rfl)
    refine ⟨(else_ p.1 fun e => hne e.symm).trans (h.ext p hp').1, fun j hj => ?_⟩
    rw [hg] at hj
    by_cases e : j = H.nx
    · rw [e, Env.upd_blk]; exact hne
    · rw [if_neg e] at hj
      by_cases e1 : j = b
      · rw [if_pos e1] at hj; cases hj
      · rw [if_neg e1] at hj
        rw [hold j e]
        exact (h.ext p hp').2 j hj
  refine ⟨⟨?_, ?_, ?_, ?_, hx⟩, ⟨os, tape, output, by omega, ?_, ?_, hext, by omega⟩⟩
  · intro j oj hj
    rw [hg] at hj
    by_cases e : j = H.nx
    · rw [if_pos e] at hj
      cases hj
      rw [e, Env.upd_blk, at_]
      exact hr
    · rw [if_neg e] at hj
      by_cases e1 : j = b
      · rw [if_pos e1] at hj; cases hj
      · rw [if_neg e1] at hj
        rw [hold j e, else_ _ fun e' => e1 (h.inj j b (by rw [hj]; rfl) (by rw [hb]; rfl) e')]
        exact (h.blk j oj hj).ext hext (h.lt j oj hj) (h.ok j oj hj)
  · intro j k hj hk e
    rw [hg] at hj hk
    by_cases e1 : j = H.nx
    · by_cases e2 : k = H.nx
      · omega
      · rw [if_neg e2] at hk
        by_cases e3 : k = b
        · rw [if_pos e3] at hk; cases hk
        · rw [if_neg e3] at hk
          rw [e1, Env.upd_blk, hold k e2] at e
          exact absurd (h.inj b k (by rw [hb]; rfl) hk e).symm e3
    · rw [if_neg e1] at hj
      by_cases e4 : j = b
      · rw [if_pos e4] at hj; cases hj
      · rw [if_neg e4] at hj
        by_cases e2 : k = H.nx
        · rw [e2, Env.upd_blk, hold j e1] at e
          exact absurd (h.inj j b hj (by rw [hb]; rfl) e) e4
        · rw [if_neg e2] at hk
          by_cases e3 : k = b
          · rw [if_pos e3] at hk; cases hk
          · rw [if_neg e3] at hk
            rw [hold j e1, hold k e2] at e
            exact h.inj j k hj hk e
  · intro j oj hj
    rw [hg] at hj
    by_cases e : j = H.nx
    · omega
    · rw [if_neg e] at hj
      by_cases e1 : j = b
      · omega
      · rw [if_neg e1] at hj
        have := h.lt j oj hj
        omega
  · intro j oj hj
    rw [hg] at hj
    by_cases e : j = H.nx
    · rw [if_pos e] at hj; cases hj; exact okO_mono (by omega) hok
    · rw [if_neg e] at hj
      by_cases e1 : j = b
      · rw [if_pos e1] at hj; cases hj
      · rw [if_neg e1] at hj; exact okO_mono (by omega) (h.ok j oj hj)
  · intro g _ hne
    exact else_ g fun e => hne b (by rw [hb]; rfl) e.symm
  · intro j hj
    rw [hg] at hj
    by_cases e : j = H.nx
    · left; exact ⟨b, by rw [hb]; rfl, by rw [e, Env.upd_blk]⟩
    · rw [if_neg e] at hj
      by_cases e1 : j = b
      · rw [if_pos e1] at hj; cases hj
      · rw [if_neg e1] at hj; exact .inl ⟨j, hj, hold j e⟩

/-! ### Cells -/
noncomputable def Hp.cells (H : Hp) (b : Nat) : Option (List Value) := match H.get b with
  | some (.cells c _ _) => some c
  | _ => none

theorem Rel.cell {E : Env} {H : Hp} {w : World} (h : Rel σ E H w) {b : Nat} {c : List Value} (hb : H.cells b = some c) {i : Nat} {v : Value} (hi : c[i]? = some v) :
    w.cell? ⟨E.blk b, i, none⟩ = some (den σ E v) := by
  unfold Hp.cells at hb
  split at hb
  · rename_i c' fx el hg
    cases hb
    obtain ⟨rest, h1, _⟩ := h.blk b _ hg
    have hlt : i < c.length := by
      rcases Nat.lt_or_ge i c.length with hl | hl
      · exact hl
      · rw [List.getElem?_eq_none hl] at hi; cases hi
    simp only [World.cell?, h1]
    simp [Array.getElem?_append, hlt]
    rw [List.getElem?_eq_getElem hlt] at hi
    cases hi
    rfl
  · cases hb

theorem Addr.add_mk (b i n : Nat) : Addr.add ⟨b, i, none⟩ n = ⟨b, i + n, none⟩ := by
  unfold Addr.add
  split
  · rename_i h; subst h; rfl
  · rfl

theorem run_loadCells {P : Program} {E : Env} {H : Hp} {w : World} (h : Rel σ E H w) {b : Nat} {c : List Value} (hb : H.cells b = some c) (off : Nat) :
    ∀ (n i : Nat) (acc : Array Value), off + i + n ≤ c.length →
      (loadCellsFrom ⟨E.blk b, off, none⟩ i n acc).run P w = .ok (acc ++ (((c.drop (off + i)).take n).map (den σ E)).toArray) w := by
  intro n
  induction n with
  | zero => intro i acc _; simp [loadCellsFrom]
  | succ n ih =>
    intro i acc hl
    have hlt : off + i < c.length := by omega
    have hc := h.cell hb (i := off + i) (List.getElem?_eq_getElem hlt)
    simp only [loadCellsFrom, Sem.run_bind, run_load, Addr.add_mk, hc, Result.andThen_ok]
    rw [ih (i + 1) _ (by omega)]
    congr 1
    rw [← Nat.add_assoc]
    apply Array.ext'
    have e : List.drop (off + i) c = c[off + i] :: List.drop (off + i + 1) c := List.drop_eq_getElem_cons hlt
    rw [e, List.take_succ_cons, List.map_cons]
    simp [-List.map_take, -List.map_drop]

noncomputable def Value.one (v : Value) : Bool := match v with
  | .agg _ | .tuple _ => false
  | _ => true
theorem one_den {E : Env} {v : Value} (h : Value.one v = true) : (den σ E v).oneCell' = true := by
  cases v with
  | agg cs => simp [Value.one] at h
  | tuple cs => simp [Value.one] at h
  | pointer a => cases a <;> simp [den, Value.oneCell']
  | slice a l c => cases a <;> simp [den, Value.oneCell']
  | map r => cases r <;> simp [den, Value.oneCell']
  | float k b =>
    cases k with
    | f64 => simp [den, Value.oneCell']
    | f32 => rw [den_opq]; exact σ.cell b
  | _ => simp [den, Value.oneCell']

/-- cells written over -/
noncomputable def splice (c : List Value) (off : Nat) (vs : List Value) : List Value := c.take off ++ vs ++ c.drop (off + vs.length)

theorem heap_setCell_at {w : World} {b i : Nat} {cs : Array Value} {el : TypeId} {fz : Nat × Nat} {v : Value} (hb : w.heap[b]? = some (.cells cs el fz)) :
    (w.setCell ⟨b, i, none⟩ v).heap[b]? = some (.cells (cs.setIfInBounds i v) el fz) := by
  simp [World.setCell, Array.getElem?_modify, hb]
theorem heap_setCell_ne {w : World} {b i g : Nat} {v : Value} (hg : g ≠ b) : (w.setCell ⟨b, i, none⟩ v).heap[g]? = w.heap[g]? := by
  simp [World.setCell, Array.getElem?_modify, Ne.symm hg]

/-- stores, cell by cell, into a block that is known -/
theorem run_storeCells {P : Program} {b : Nat} {el : TypeId} : ∀ (vs : List Value) (i off : Nat) (w : World) (cs : Array Value), (∀ v ∈ vs, v.oneCell' = true) →
    w.heap[b]? = some (.cells cs el (0, 0)) → off + i + vs.length ≤ cs.size →
    ∃ w', (storeCells ⟨b, off, none⟩ vs i).run P w = .ok () w' ∧ w'.os = w.os ∧ w'.tape = w.tape ∧ w'.output = w.output ∧ w'.heap.size = w.heap.size ∧
      w'.heap[b]? = some (.cells (cs.toList.take (off + i) ++ vs ++ cs.toList.drop (off + i + vs.length)).toArray el (0, 0)) ∧ ∀ g, g ≠ b → w'.heap[g]? = w.heap[g]? := by
  intro vs
  induction vs with
  | nil =>
    intro i off w cs _ hb _
    refine ⟨w, rfl, rfl, rfl, rfl, rfl, ?_, fun _ _ => rfl⟩
    simp [hb]
  | cons v vs ih =>
    intro i off w cs hv hb hl
    simp only [List.length_cons] at hl
    have hlt : off + i < cs.size := by omega
    have hc : w.cell? ⟨b, off + i, none⟩ = some cs[off + i] := by simp [World.cell?, hb, hlt]
    have hf : w.frozen? ⟨b, off + i, none⟩ = false := by simp [World.frozen?, hb]
    obtain ⟨w', h1, h2, h3, h4, h5, h6, h7⟩ := ih (i + 1) off (w.setCell ⟨b, off + i, none⟩ v) (cs.setIfInBounds (off + i) v) (fun x hx => hv x (List.mem_cons_of_mem _ hx)) (heap_setCell_at hb) (by simp; omega)
    refine ⟨w', ?_, h2, h3, h4, h5.trans (by simp [World.setCell]), ?_, fun g hg => (h7 g hg).trans (heap_setCell_ne hg)⟩
    · simp only [storeCells, Sem.run_bind, Addr.add_mk, run_store P _ _ _ _ (hv v List.mem_cons_self), hc, hf, Bool.false_eq_true, if_false, Result.andThen_ok]
      exact h1
    · rw [h6]
      congr 2
      have e1 : List.take (off + (i + 1)) (cs.toList.set (off + i) v) = List.take (off + i) cs.toList ++ [v] := by
        rw [← Nat.add_assoc, List.take_succ_eq_append_getElem (by simpa using hlt), List.take_set_of_le (Nat.le_refl _)]
        simp
      have e2 : List.drop (off + (i + 1) + vs.length) (cs.toList.set (off + i) v) = List.drop (off + i + (vs.length + 1)) cs.toList := by
        rw [List.drop_set_of_lt (by omega)]
        congr 1
        omega
      simp only [Array.toList_setIfInBounds, e1, e2, List.length_cons]
      simp
end Go.Proofs.Ytnjfbcoddbeggaa.Sx
