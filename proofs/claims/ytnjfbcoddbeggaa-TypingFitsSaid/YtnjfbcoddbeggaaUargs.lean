/-
  What comes in: units, expressions, statements.
-/
import Derived.Test.YtnjfbcoddbeggaaUforms
import Derived.Test.YtnjfbcoddbeggaaRows
import Derived.WalkKit
import Derived.ProofKit
namespace Go.Proofs.Ytnjfbcoddbeggaa
open Go Go.ChangeShapes Go.WideShapes Go.ChangeAt Go.RowKit Go.Joins Go.Deep Go.ChangeMaps

section
theorem shE_up : ∀ (d : Nat) (S : Nat → Prop) (W : World) (vs : List Value) (x : ExprU), (shE d).Is S W vs x → (shE (d + 1)).Is S W vs x := by
  intro d
  induction d with
  | zero => intro S W vs x h; exact h.elim
  | succ d ih =>
    intro S W vs x h
    obtain ⟨a4, l4, c4, rfl, r⟩ := e_is.1 h
    exact e_is.2 ⟨a4, l4, c4, rfl, r.turn (by rw [shE_n, shE_n]) (fun vs x => ih S W vs x)⟩
theorem shE_le {d d' : Nat} (hd : d ≤ d') {S : Nat → Prop} {W : World} {vs : List Value} {x : ExprU} (h : (shE d).Is S W vs x) : (shE d').Is S W vs x := by
  induction hd with
  | refl => exact h
  | step _ ih => exact shE_up _ _ _ _ _ ih
theorem shS_up : ∀ (d : Nat) (S : Nat → Prop) (W : World) (vs : List Value) (x : StmtU), (shS d).Is S W vs x → (shS (d + 1)).Is S W vs x := by
  intro d
  induction d with
  | zero => intro S W vs x h; exact h.elim
  | succ d ih =>
    intro S W vs x h
    obtain ⟨a3, l3, c3, a4, l4, c4, a5, l5, c5, rfl, r3, r4, r5⟩ := s_is.1 h
    exact s_is.2 ⟨a3, l3, c3, a4, l4, c4, a5, l5, c5, rfl, r3.turn (by rw [shE_n, shE_n]) (fun vs x => shE_up d S W vs x), r4, Row.turn (sh := shSlice (shS d)) (sh' := shSlice (shS (d + 1))) rfl (fun vs x hx => by
      obtain ⟨a, l, c, rfl, r⟩ := slice_is.1 hx
      exact ⟨a, l, c, rfl, Row.turn (sh := shS d) (sh' := shS (d + 1)) (by rw [shS_n, shS_n]) (fun vs x => ih S W vs x) r⟩) r5⟩
theorem shS_le {d d' : Nat} (hd : d ≤ d') {S : Nat → Prop} {W : World} {vs : List Value} {x : StmtU} (h : (shS d).Is S W vs x) : (shS d').Is S W vs x := by
  induction hd with
  | refl => exact h
  | step _ ih => exact shS_up _ _ _ _ _ ih
variable {H : Type} {enc : TypeId × Value → H} {w : World} {base : Nat} {held : Bool}
/-- cells of a type that came in hold one of a shape, where so much fuel reads them -/
def OpensAt (enc : TypeId × Value → H) (w : World) (base : Nat) (held : Bool) (n : Nat) (t : TypeId) {T : Type} (sh : Sh T) : Prop :=
  ∀ (cs : List Value) (y : DataW H × List MemPlace), DataW.trod enc Try.prog w base (fun _ => true) held n t cs = some y → ∃ x, sh.Is (fun k => k < w.heap.size) w cs x
theorem opens_zero {t : TypeId} {T : Type} {sh : Sh T} : OpensAt enc w base held 0 t sh := fun cs y h => by simp [DataW.trod] at h
theorem opens_slice_at {t e : TypeId} {T : Type} {sh : Sh T} {n : Nat} (ht : Try.prog.underlying t = some (.slice e)) (hc : Try.prog.cellsOf e = sh.n) (hn : 0 < sh.n) (he : OpensAt enc w base held n e sh) : OpensAt enc w base held (n + 1) t (shSlice sh) := by
  intro cs y h
  rcases DataW.trod_slice ht h with ⟨hcs, _⟩ | ⟨x, l, c, elems, rest, n', hnn, hcs, hq1, hq2, hl, hm, hel, hx, hq3, hq4⟩
  · exact ⟨[], none, 0, 0, hcs, Row.nil _ _ _ _⟩
  · obtain rfl : n = n' := by omega
    have each : ∀ i, i < l → ∃ (q : T), ∃ vs, w.cells? base (x.add (i * Try.prog.cellsOf e)) (Try.prog.cellsOf e) = some vs ∧ sh.Is (fun k => k < w.heap.size) w vs q := by
      intro i hi
      have h1 := hx i hi
      rw [List.getElem?_eq_getElem (by omega)] at h1
      obtain ⟨cs', h2, h3⟩ := Option.bind_eq_some_iff.1 h1
      obtain ⟨q, hq⟩ := he _ _ h3
      exact ⟨q, cs', h2, hq⟩
    have hall : ∃ xs : List T, xs.length = l ∧ ∀ i q, xs[i]? = some q → ∃ vs, w.cells? base (x.add (i * Try.prog.cellsOf e)) (Try.prog.cellsOf e) = some vs ∧ sh.Is (fun k => k < w.heap.size) w vs q := by
      clear hx hcs hl hm h hel hq1 hq2 hq3 hq4
      induction l with
      | zero => exact ⟨[], rfl, fun i q h => by simp at h⟩
      | succ l ih =>
        obtain ⟨xs, h1, h2⟩ := ih (fun i hi => each i (by omega))
        obtain ⟨q, hq⟩ := each l (by omega)
        refine ⟨xs ++ [q], by simp [h1], fun i q' hi => ?_⟩
        rcases Nat.lt_or_ge i xs.length with h | h
        · rw [List.getElem?_append_left h] at hi
          exact h2 i q' hi
        · rw [List.getElem?_append_right h] at hi
          have hi0 : i - xs.length = 0 := by
            rcases Nat.lt_or_ge (i - xs.length) 1 with h' | h'
            · omega
            · rw [List.getElem?_eq_none (by simpa using h')] at hi; cases hi
          rw [hi0] at hi
          obtain rfl : q = q' := by simpa using hi
          obtain rfl : i = l := by omega
          exact hq
    obtain ⟨xs, h1, h2⟩ := hall
    refine ⟨xs, some x, l, c, hcs, h1, fun hp => ?_⟩
    have key : ∀ i q, xs[i]? = some q → ∃ vs, vs.length = sh.n ∧ (∀ j v, vs[j]? = some v → w.cell? ((x.add (i * sh.n)).add j) = some v) ∧ sh.Is (fun k => k < w.heap.size) w vs q := by
      intro i q hi
      obtain ⟨vs, h3, h4⟩ := h2 i q hi
      rw [hc] at h3
      obtain ⟨_, hlen, hcell⟩ := World.cells?_some h3
      refine ⟨vs, hlen, fun j v hj => ?_, h4⟩
      have hjn : j < sh.n := by have := (List.getElem?_eq_some_iff.1 hj).1; omega
      rw [hcell j hjn, hj]
    obtain ⟨vs0, k1, k2, _⟩ := key 0 (xs[0]'(by omega)) (List.getElem?_eq_getElem _)
    have k3 := k2 0 (vs0[0]'(by omega)) (List.getElem?_eq_getElem _)
    rw [Nat.zero_mul] at k3
    have k4 : w.cell? x = some (vs0[0]'(by omega)) := by simpa [Addr.add] using k3
    have hsp := spot_of k4
    refine ⟨Nat.le_trans hl hm, x.block, x.off, by cases x; simp_all, World.block_lt_of_cell? _ _ k4, fun i q hi => ?_⟩
    obtain ⟨vs, k5, k6, k7⟩ := key i q hi
    refine ⟨vs, fun j v hj => ?_, k7⟩
    have := k6 j v hj
    rw [add_at hsp, add_at rfl] at this
    exact this
theorem at_of {t : TypeId} {T : Type} {sh : Sh T} (h : Opens enc Try.prog w base held t sh) (n : Nat) : OpensAt enc w base held n t sh := fun cs y hy => h n cs y hy
theorem of_at {t : TypeId} {T : Type} {sh : Sh T} (h : ∀ n, OpensAt enc w base held n t sh) : Opens enc Try.prog w base held t sh := fun n cs y hy => h n cs y hy
theorem co57 : Try.prog.cellsOf 57 = 5 := by kernel_rfl
theorem co71 : Try.prog.cellsOf 71 = 6 := by kernel_rfl
theorem co89 : Try.prog.cellsOf 89 = 8 := by kernel_rfl
theorem co52 : Try.prog.cellsOf 52 = 4 := by kernel_rfl
theorem co66 : Try.prog.cellsOf 66 = 11 := by kernel_rfl
theorem co47 : Try.prog.cellsOf 47 = 11 := by kernel_rfl
theorem co3 : Try.prog.cellsOf 3 = 1 := by kernel_rfl
theorem co4 : Try.prog.cellsOf 4 = 1 := by kernel_rfl
theorem co9 : Try.prog.cellsOf 9 = 1 := by kernel_rfl
theorem co32 : Try.prog.cellsOf 32 = 1 := by kernel_rfl
theorem co34 : Try.prog.cellsOf 34 = 1 := by kernel_rfl
theorem co43 : Try.prog.cellsOf 43 = 1 := by kernel_rfl
theorem co44 : Try.prog.cellsOf 44 = 1 := by kernel_rfl
theorem co45 : Try.prog.cellsOf 45 = 1 := by kernel_rfl
theorem co55 : Try.prog.cellsOf 55 = 1 := by kernel_rfl
theorem co68 : Try.prog.cellsOf 68 = 1 := by kernel_rfl
theorem co69 : Try.prog.cellsOf 69 = 1 := by kernel_rfl
theorem co22 : Try.prog.cellsOf 22 = 1 := by kernel_rfl
theorem co24 : Try.prog.cellsOf 24 = 1 := by kernel_rfl

theorem o3 : Opens enc Try.prog w base held 3 shInt := opens_int Try.underlying3
theorem o4 : Opens enc Try.prog w base held 4 shBool := opens_bool Try.underlying4
theorem o9 : Opens enc Try.prog w base held 9 shStr := opens_str Try.underlying9
theorem o32 : Opens enc Try.prog w base held 32 (shSlice shInt) := opens_slice Try.underlying32 co3 (by decide) o3
theorem o43 : Opens enc Try.prog w base held 43 (shSlice shStr) := opens_slice Try.underlying43 co9 (by decide) o9
theorem o69 : Opens enc Try.prog w base held 69 (shSlice (shSlice shInt)) := opens_slice Try.underlying69 co32 (by decide) o32
set_option maxRecDepth 100000 in
theorem o52 : Opens enc Try.prog w base held 52 shType := by
  intro fuel cs y h
  obtain ⟨n, rfl, hlen, hf⟩ := seg_of Try.underlying52 h
  rw [co52] at hlen
  match cs, hlen with
  | [c0, c1, c2, c3], _ =>
    obtain ⟨z0, hz0⟩ := hf 0 _ rfl
    have hw0 : DataW.trod enc Try.prog w base (fun _ => true) held n 3 (List.take (Try.prog.cellsOf 3) (List.drop 0 [c0, c1, c2, c3])) = some z0 := hz0
    rw [co3] at hw0
    obtain ⟨x0, hx0⟩ := o3 n _ _ (show DataW.trod enc Try.prog w base (fun _ => true) held n 3 [c0] = some z0 from hw0)
    obtain ⟨z1, hz1⟩ := hf 1 _ rfl
    have hw1 : DataW.trod enc Try.prog w base (fun _ => true) held n 3 (List.take (Try.prog.cellsOf 3) (List.drop 1 [c0, c1, c2, c3])) = some z1 := hz1
    rw [co3] at hw1
    obtain ⟨x1, hx1⟩ := o3 n _ _ (show DataW.trod enc Try.prog w base (fun _ => true) held n 3 [c1] = some z1 from hw1)
    obtain ⟨z2, hz2⟩ := hf 2 _ rfl
    have hw2 : DataW.trod enc Try.prog w base (fun _ => true) held n 3 (List.take (Try.prog.cellsOf 3) (List.drop 2 [c0, c1, c2, c3])) = some z2 := hz2
    rw [co3] at hw2
    obtain ⟨x2, hx2⟩ := o3 n _ _ (show DataW.trod enc Try.prog w base (fun _ => true) held n 3 [c2] = some z2 from hw2)
    obtain ⟨z3, hz3⟩ := hf 3 _ rfl
    have hw3 : DataW.trod enc Try.prog w base (fun _ => true) held n 9 (List.take (Try.prog.cellsOf 9) (List.drop 3 [c0, c1, c2, c3])) = some z3 := hz3
    rw [co9] at hw3
    obtain ⟨x3, hx3⟩ := o9 n _ _ (show DataW.trod enc Try.prog w base (fun _ => true) held n 9 [c3] = some z3 from hw3)
    cases hx0; cases hx1; cases hx2; cases hx3
    exact ⟨⟨x0, x1, x2, x3⟩, type_is.2 rfl⟩
set_option maxRecDepth 100000 in
theorem o89 : Opens enc Try.prog w base held 89 shVar := by
  intro fuel cs y h
  obtain ⟨n, rfl, hlen, hf⟩ := seg_of Try.underlying89 h
  rw [co89] at hlen
  match cs, hlen with
  | [c0, c1, c2, c3, c4, c5, c6, c7], _ =>
    obtain ⟨z0, hz0⟩ := hf 0 _ rfl
    have hw0 : DataW.trod enc Try.prog w base (fun _ => true) held n 9 (List.take (Try.prog.cellsOf 9) (List.drop 0 [c0, c1, c2, c3, c4, c5, c6, c7])) = some z0 := hz0
    rw [co9] at hw0
    obtain ⟨x0, hx0⟩ := o9 n _ _ (show DataW.trod enc Try.prog w base (fun _ => true) held n 9 [c0] = some z0 from hw0)
    obtain ⟨z1, hz1⟩ := hf 1 _ rfl
    have hw1 : DataW.trod enc Try.prog w base (fun _ => true) held n 52 (List.take (Try.prog.cellsOf 52) (List.drop 1 [c0, c1, c2, c3, c4, c5, c6, c7])) = some z1 := hz1
    rw [co52] at hw1
    obtain ⟨x1, hx1⟩ := o52 n _ _ (show DataW.trod enc Try.prog w base (fun _ => true) held n 52 [c1, c2, c3, c4] = some z1 from hw1)
    obtain ⟨z2, hz2⟩ := hf 2 _ rfl
    have hw2 : DataW.trod enc Try.prog w base (fun _ => true) held n 3 (List.take (Try.prog.cellsOf 3) (List.drop 5 [c0, c1, c2, c3, c4, c5, c6, c7])) = some z2 := hz2
    rw [co3] at hw2
    obtain ⟨x2, hx2⟩ := o3 n _ _ (show DataW.trod enc Try.prog w base (fun _ => true) held n 3 [c5] = some z2 from hw2)
    obtain ⟨z3, hz3⟩ := hf 3 _ rfl
    have hw3 : DataW.trod enc Try.prog w base (fun _ => true) held n 3 (List.take (Try.prog.cellsOf 3) (List.drop 6 [c0, c1, c2, c3, c4, c5, c6, c7])) = some z3 := hz3
    rw [co3] at hw3
    obtain ⟨x3, hx3⟩ := o3 n _ _ (show DataW.trod enc Try.prog w base (fun _ => true) held n 3 [c6] = some z3 from hw3)
    obtain ⟨z4, hz4⟩ := hf 4 _ rfl
    have hw4 : DataW.trod enc Try.prog w base (fun _ => true) held n 3 (List.take (Try.prog.cellsOf 3) (List.drop 7 [c0, c1, c2, c3, c4, c5, c6, c7])) = some z4 := hz4
    rw [co3] at hw4
    obtain ⟨x4, hx4⟩ := o3 n _ _ (show DataW.trod enc Try.prog w base (fun _ => true) held n 3 [c7] = some z4 from hw4)
    cases hx0; cases hx2; cases hx3; cases hx4
    have hx1 := type_is.1 hx1
    simp only [List.cons.injEq, and_true] at hx1
    obtain ⟨rfl, rfl, rfl, rfl⟩ := hx1
    exact ⟨⟨x0, x1, x2, x3, x4⟩, var_is.2 rfl⟩
theorem o34 : Opens enc Try.prog w base held 34 (shSlice shVar) := opens_slice Try.underlying34 co89 (by decide) o89
set_option maxRecDepth 100000 in
theorem o57 : ∀ n, OpensAt enc w base held n 57 (shE n) := by
  intro m
  induction m using Nat.strongRecOn with
  | _ m ih =>
  intro cs y h
  obtain ⟨n, rfl, hlen, hf⟩ := seg_of Try.underlying57 h
  rw [co57] at hlen
  match cs, hlen with
  | [c0, c1, c2, c3, c4], _ =>
    obtain ⟨z0, hz0⟩ := hf 0 _ rfl
    have hw0 : DataW.trod enc Try.prog w base (fun _ => true) held n 3 (List.take (Try.prog.cellsOf 3) (List.drop 0 [c0, c1, c2, c3, c4])) = some z0 := hz0
    rw [co3] at hw0
    obtain ⟨x0, hx0⟩ := o3 n _ _ (show DataW.trod enc Try.prog w base (fun _ => true) held n 3 [c0] = some z0 from hw0)
    obtain ⟨z1, hz1⟩ := hf 1 _ rfl
    have hw1 : DataW.trod enc Try.prog w base (fun _ => true) held n 3 (List.take (Try.prog.cellsOf 3) (List.drop 1 [c0, c1, c2, c3, c4])) = some z1 := hz1
    rw [co3] at hw1
    obtain ⟨x1, hx1⟩ := o3 n _ _ (show DataW.trod enc Try.prog w base (fun _ => true) held n 3 [c1] = some z1 from hw1)
    obtain ⟨z2, hz2⟩ := hf 2 _ rfl
    have hw2 : DataW.trod enc Try.prog w base (fun _ => true) held n 9 (List.take (Try.prog.cellsOf 9) (List.drop 2 [c0, c1, c2, c3, c4])) = some z2 := hz2
    rw [co9] at hw2
    obtain ⟨x2, hx2⟩ := o9 n _ _ (show DataW.trod enc Try.prog w base (fun _ => true) held n 9 [c2] = some z2 from hw2)
    obtain ⟨z3, hz3⟩ := hf 3 _ rfl
    have hw3 : DataW.trod enc Try.prog w base (fun _ => true) held n 9 (List.take (Try.prog.cellsOf 9) (List.drop 3 [c0, c1, c2, c3, c4])) = some z3 := hz3
    rw [co9] at hw3
    obtain ⟨x3, hx3⟩ := o9 n _ _ (show DataW.trod enc Try.prog w base (fun _ => true) held n 9 [c3] = some z3 from hw3)
    obtain ⟨z4, hz4⟩ := hf 4 _ rfl
    have hw4 : DataW.trod enc Try.prog w base (fun _ => true) held n 55 (List.take (Try.prog.cellsOf 55) (List.drop 4 [c0, c1, c2, c3, c4])) = some z4 := hz4
    rw [co55] at hw4
    have h4 : DataW.trod enc Try.prog w base (fun _ => true) held n 55 [c4] = some z4 := hw4
    cases n with
    | zero => simp [DataW.trod] at h4
    | succ k =>
      obtain ⟨x4, hx4⟩ := opens_slice_at (sh := shE k) Try.underlying55 (by rw [co57, shE_n]) (by rw [shE_n]; decide) (ih k (by omega)) _ _ h4
      obtain ⟨a4, l4, cc4, hv4, r4⟩ := slice_is.1 hx4
      cases hv4
      cases hx0; cases hx1; cases hx2; cases hx3
      exact ⟨⟨x0, x1, x2, x3, x4⟩, e_is.2 ⟨a4, l4, cc4, rfl, r4.turn (by rw [shE_n, shE_n]) (fun vs x => shE_up k _ _ vs x)⟩⟩
theorem o55 : ∀ n, OpensAt enc w base held (n + 1) 55 (shSlice (shE n)) := fun n => opens_slice_at Try.underlying55 (by rw [co57, shE_n]) (by rw [shE_n]; decide) (o57 n)
set_option maxRecDepth 100000 in
theorem o71 : ∀ n, OpensAt enc w base held n 71 (shS n) := by
  intro m
  induction m using Nat.strongRecOn with
  | _ m ih =>
  intro cs y h
  obtain ⟨n, rfl, hlen, hf⟩ := seg_of Try.underlying71 h
  rw [co71] at hlen
  match cs, hlen with
  | [c0, c1, c2, c3, c4, c5], _ =>
    obtain ⟨z0, hz0⟩ := hf 0 _ rfl
    have hw0 : DataW.trod enc Try.prog w base (fun _ => true) held n 3 (List.take (Try.prog.cellsOf 3) (List.drop 0 [c0, c1, c2, c3, c4, c5])) = some z0 := hz0
    rw [co3] at hw0
    obtain ⟨x0, hx0⟩ := o3 n _ _ (show DataW.trod enc Try.prog w base (fun _ => true) held n 3 [c0] = some z0 from hw0)
    obtain ⟨z1, hz1⟩ := hf 1 _ rfl
    have hw1 : DataW.trod enc Try.prog w base (fun _ => true) held n 3 (List.take (Try.prog.cellsOf 3) (List.drop 1 [c0, c1, c2, c3, c4, c5])) = some z1 := hz1
    rw [co3] at hw1
    obtain ⟨x1, hx1⟩ := o3 n _ _ (show DataW.trod enc Try.prog w base (fun _ => true) held n 3 [c1] = some z1 from hw1)
    obtain ⟨z2, hz2⟩ := hf 2 _ rfl
    have hw2 : DataW.trod enc Try.prog w base (fun _ => true) held n 9 (List.take (Try.prog.cellsOf 9) (List.drop 2 [c0, c1, c2, c3, c4, c5])) = some z2 := hz2
    rw [co9] at hw2
    obtain ⟨x2, hx2⟩ := o9 n _ _ (show DataW.trod enc Try.prog w base (fun _ => true) held n 9 [c2] = some z2 from hw2)
    obtain ⟨z4, hz4⟩ := hf 4 _ rfl
    have hw4 : DataW.trod enc Try.prog w base (fun _ => true) held n 69 (List.take (Try.prog.cellsOf 69) (List.drop 4 [c0, c1, c2, c3, c4, c5])) = some z4 := hz4
    rw [co69] at hw4
    obtain ⟨x4, hx4⟩ := o69 n _ _ (show DataW.trod enc Try.prog w base (fun _ => true) held n 69 [c4] = some z4 from hw4)
    obtain ⟨z3, hz3⟩ := hf 3 _ rfl
    have hw3 : DataW.trod enc Try.prog w base (fun _ => true) held n 55 (List.take (Try.prog.cellsOf 55) (List.drop 3 [c0, c1, c2, c3, c4, c5])) = some z3 := hz3
    rw [co55] at hw3
    have h3 : DataW.trod enc Try.prog w base (fun _ => true) held n 55 [c3] = some z3 := hw3
    obtain ⟨z5, hz5⟩ := hf 5 _ rfl
    have hw5 : DataW.trod enc Try.prog w base (fun _ => true) held n 68 (List.take (Try.prog.cellsOf 68) (List.drop 5 [c0, c1, c2, c3, c4, c5])) = some z5 := hz5
    rw [co68] at hw5
    have h5 : DataW.trod enc Try.prog w base (fun _ => true) held n 68 [c5] = some z5 := hw5
    cases n with
    | zero => simp [DataW.trod] at h3
    | succ k =>
      obtain ⟨x3, hx3⟩ := o55 k _ _ h3
      have h45 : OpensAt enc w base held k 45 (shSlice (shS k)) := by
        cases k with
        | zero => exact opens_zero
        | succ q =>
          intro cs y hy
          obtain ⟨xs, hxs⟩ := opens_slice_at (sh := shS q) Try.underlying45 (by rw [co71, shS_n]) (by rw [shS_n]; decide) (ih q (by omega)) cs y hy
          obtain ⟨a, l, c, rfl, r⟩ := slice_is.1 hxs
          exact ⟨xs, a, l, c, rfl, r.turn (by rw [shS_n, shS_n]) (fun vs x => shS_up q _ _ vs x)⟩
      obtain ⟨x5, hx5⟩ := opens_slice_at Try.underlying68 co45 (show 0 < 1 by omega) h45 _ _ h5
      obtain ⟨a3, l3, cc3, hv3, r3⟩ := slice_is.1 hx3
      obtain ⟨a4, l4, cc4, hv4, r4⟩ := slice_is.1 hx4
      obtain ⟨a5, l5, cc5, hv5, r5⟩ := slice_is.1 hx5
      cases hv3; cases hv4; cases hv5
      cases hx0; cases hx1; cases hx2
      exact ⟨⟨x0, x1, x2, x3, x4, x5⟩, s_is.2 ⟨a3, l3, cc3, a4, l4, cc4, a5, l5, cc5, rfl, r3.turn (by rw [shE_n, shE_n]) (fun vs x => shE_up k _ _ vs x), r4, Row.turn (sh := shSlice (shS k)) (sh' := shSlice (shS (k + 1))) rfl (fun vs x hx => by
        obtain ⟨a, l, c, rfl, r⟩ := slice_is.1 hx
        exact ⟨a, l, c, rfl, Row.turn (sh := shS k) (sh' := shS (k + 1)) (by rw [shS_n, shS_n]) (fun vs x => shS_up k _ _ vs x) r⟩) r5⟩⟩
theorem o45 : Opens enc Try.prog w base held 45 shStmts := by
  intro fuel cs y h
  cases fuel with
  | zero => simp [DataW.trod] at h
  | succ k =>
    obtain ⟨xs, hxs⟩ := opens_slice_at (sh := shS k) Try.underlying45 (by rw [co71, shS_n]) (by rw [shS_n]; decide) (o71 k) cs y h
    exact ⟨xs, k, hxs⟩
theorem o55x : Opens enc Try.prog w base held 55 shExprs := by
  intro fuel cs y h
  cases fuel with
  | zero => simp [DataW.trod] at h
  | succ k =>
    obtain ⟨xs, hxs⟩ := o55 k cs y h
    exact ⟨xs, k, hxs⟩
theorem o57x : Opens enc Try.prog w base held 57 shExpr := fun fuel cs y h => by
  obtain ⟨x, hx⟩ := o57 fuel cs y h
  exact ⟨x, fuel, hx⟩
set_option maxRecDepth 100000 in
theorem o66 : Opens enc Try.prog w base held 66 shMeth := by
  intro fuel cs y h
  obtain ⟨n, rfl, hlen, hf⟩ := seg_of Try.underlying66 h
  rw [co66] at hlen
  match cs, hlen with
  | [c0, c1, c2, c3, c4, c5, c6, c7, c8, c9, c10], _ =>
    obtain ⟨z0, hz0⟩ := hf 0 _ rfl
    have hw0 : DataW.trod enc Try.prog w base (fun _ => true) held n 9 (List.take (Try.prog.cellsOf 9) (List.drop 0 [c0, c1, c2, c3, c4, c5, c6, c7, c8, c9, c10])) = some z0 := hz0
    rw [co9] at hw0
    obtain ⟨x0, hx0⟩ := o9 n _ _ (show DataW.trod enc Try.prog w base (fun _ => true) held n 9 [c0] = some z0 from hw0)
    obtain ⟨z1, hz1⟩ := hf 1 _ rfl
    have hw1 : DataW.trod enc Try.prog w base (fun _ => true) held n 4 (List.take (Try.prog.cellsOf 4) (List.drop 1 [c0, c1, c2, c3, c4, c5, c6, c7, c8, c9, c10])) = some z1 := hz1
    rw [co4] at hw1
    obtain ⟨x1, hx1⟩ := o4 n _ _ (show DataW.trod enc Try.prog w base (fun _ => true) held n 4 [c1] = some z1 from hw1)
    obtain ⟨z2, hz2⟩ := hf 2 _ rfl
    have hw2 : DataW.trod enc Try.prog w base (fun _ => true) held n 4 (List.take (Try.prog.cellsOf 4) (List.drop 2 [c0, c1, c2, c3, c4, c5, c6, c7, c8, c9, c10])) = some z2 := hz2
    rw [co4] at hw2
    obtain ⟨x2, hx2⟩ := o4 n _ _ (show DataW.trod enc Try.prog w base (fun _ => true) held n 4 [c2] = some z2 from hw2)
    obtain ⟨z3, hz3⟩ := hf 3 _ rfl
    have hw3 : DataW.trod enc Try.prog w base (fun _ => true) held n 4 (List.take (Try.prog.cellsOf 4) (List.drop 3 [c0, c1, c2, c3, c4, c5, c6, c7, c8, c9, c10])) = some z3 := hz3
    rw [co4] at hw3
    obtain ⟨x3, hx3⟩ := o4 n _ _ (show DataW.trod enc Try.prog w base (fun _ => true) held n 4 [c3] = some z3 from hw3)
    obtain ⟨z4, hz4⟩ := hf 4 _ rfl
    have hw4 : DataW.trod enc Try.prog w base (fun _ => true) held n 34 (List.take (Try.prog.cellsOf 34) (List.drop 4 [c0, c1, c2, c3, c4, c5, c6, c7, c8, c9, c10])) = some z4 := hz4
    rw [co34] at hw4
    obtain ⟨x4, hx4⟩ := o34 n _ _ (show DataW.trod enc Try.prog w base (fun _ => true) held n 34 [c4] = some z4 from hw4)
    obtain ⟨z5, hz5⟩ := hf 5 _ rfl
    have hw5 : DataW.trod enc Try.prog w base (fun _ => true) held n 52 (List.take (Try.prog.cellsOf 52) (List.drop 5 [c0, c1, c2, c3, c4, c5, c6, c7, c8, c9, c10])) = some z5 := hz5
    rw [co52] at hw5
    obtain ⟨x5, hx5⟩ := o52 n _ _ (show DataW.trod enc Try.prog w base (fun _ => true) held n 52 [c5, c6, c7, c8] = some z5 from hw5)
    obtain ⟨z6, hz6⟩ := hf 6 _ rfl
    have hw6 : DataW.trod enc Try.prog w base (fun _ => true) held n 34 (List.take (Try.prog.cellsOf 34) (List.drop 9 [c0, c1, c2, c3, c4, c5, c6, c7, c8, c9, c10])) = some z6 := hz6
    rw [co34] at hw6
    obtain ⟨x6, hx6⟩ := o34 n _ _ (show DataW.trod enc Try.prog w base (fun _ => true) held n 34 [c9] = some z6 from hw6)
    obtain ⟨z7, hz7⟩ := hf 7 _ rfl
    have hw7 : DataW.trod enc Try.prog w base (fun _ => true) held n 45 (List.take (Try.prog.cellsOf 45) (List.drop 10 [c0, c1, c2, c3, c4, c5, c6, c7, c8, c9, c10])) = some z7 := hz7
    rw [co45] at hw7
    obtain ⟨x7, hx7⟩ := o45 n _ _ (show DataW.trod enc Try.prog w base (fun _ => true) held n 45 [c10] = some z7 from hw7)
    obtain ⟨a4, l4, cc4, hv4, r4⟩ := slice_is.1 hx4
    obtain ⟨a6, l6, cc6, hv6, r6⟩ := slice_is.1 hx6
    obtain ⟨d7, a7, l7, cc7, hv7, r7⟩ := hx7
    cases hv4; cases hv6; cases hv7
    cases hx0; cases hx1; cases hx2; cases hx3
    have hx5 := type_is.1 hx5
    simp only [List.cons.injEq, and_true] at hx5
    obtain ⟨rfl, rfl, rfl, rfl⟩ := hx5
    exact ⟨⟨x0, x1, x2, x3, x4, x5, x6, x7⟩, meth_is.2 ⟨a4, l4, cc4, a6, l6, cc6, d7, a7, l7, cc7, rfl, r4, r6, r7⟩⟩
theorem o44 : Opens enc Try.prog w base held 44 (shSlice shMeth) := opens_slice Try.underlying44 co66 (by decide) o66
set_option maxRecDepth 100000 in
theorem o47 : Opens enc Try.prog w base held 47 shDecl := by
  intro fuel cs y h
  obtain ⟨n, rfl, hlen, hf⟩ := seg_of Try.underlying47 h
  rw [co47] at hlen
  match cs, hlen with
  | [c0, c1, c2, c3, c4, c5, c6, c7, c8, c9, c10], _ =>
    obtain ⟨z0, hz0⟩ := hf 0 _ rfl
    have hw0 : DataW.trod enc Try.prog w base (fun _ => true) held n 3 (List.take (Try.prog.cellsOf 3) (List.drop 0 [c0, c1, c2, c3, c4, c5, c6, c7, c8, c9, c10])) = some z0 := hz0
    rw [co3] at hw0
    obtain ⟨x0, hx0⟩ := o3 n _ _ (show DataW.trod enc Try.prog w base (fun _ => true) held n 3 [c0] = some z0 from hw0)
    obtain ⟨z1, hz1⟩ := hf 1 _ rfl
    have hw1 : DataW.trod enc Try.prog w base (fun _ => true) held n 9 (List.take (Try.prog.cellsOf 9) (List.drop 1 [c0, c1, c2, c3, c4, c5, c6, c7, c8, c9, c10])) = some z1 := hz1
    rw [co9] at hw1
    obtain ⟨x1, hx1⟩ := o9 n _ _ (show DataW.trod enc Try.prog w base (fun _ => true) held n 9 [c1] = some z1 from hw1)
    obtain ⟨z2, hz2⟩ := hf 2 _ rfl
    have hw2 : DataW.trod enc Try.prog w base (fun _ => true) held n 9 (List.take (Try.prog.cellsOf 9) (List.drop 2 [c0, c1, c2, c3, c4, c5, c6, c7, c8, c9, c10])) = some z2 := hz2
    rw [co9] at hw2
    obtain ⟨x2, hx2⟩ := o9 n _ _ (show DataW.trod enc Try.prog w base (fun _ => true) held n 9 [c2] = some z2 from hw2)
    obtain ⟨z3, hz3⟩ := hf 3 _ rfl
    have hw3 : DataW.trod enc Try.prog w base (fun _ => true) held n 43 (List.take (Try.prog.cellsOf 43) (List.drop 3 [c0, c1, c2, c3, c4, c5, c6, c7, c8, c9, c10])) = some z3 := hz3
    rw [co43] at hw3
    obtain ⟨x3, hx3⟩ := o43 n _ _ (show DataW.trod enc Try.prog w base (fun _ => true) held n 43 [c3] = some z3 from hw3)
    obtain ⟨z4, hz4⟩ := hf 4 _ rfl
    have hw4 : DataW.trod enc Try.prog w base (fun _ => true) held n 4 (List.take (Try.prog.cellsOf 4) (List.drop 4 [c0, c1, c2, c3, c4, c5, c6, c7, c8, c9, c10])) = some z4 := hz4
    rw [co4] at hw4
    obtain ⟨x4, hx4⟩ := o4 n _ _ (show DataW.trod enc Try.prog w base (fun _ => true) held n 4 [c4] = some z4 from hw4)
    obtain ⟨z5, hz5⟩ := hf 5 _ rfl
    have hw5 : DataW.trod enc Try.prog w base (fun _ => true) held n 4 (List.take (Try.prog.cellsOf 4) (List.drop 5 [c0, c1, c2, c3, c4, c5, c6, c7, c8, c9, c10])) = some z5 := hz5
    rw [co4] at hw5
    obtain ⟨x5, hx5⟩ := o4 n _ _ (show DataW.trod enc Try.prog w base (fun _ => true) held n 4 [c5] = some z5 from hw5)
    obtain ⟨z6, hz6⟩ := hf 6 _ rfl
    have hw6 : DataW.trod enc Try.prog w base (fun _ => true) held n 34 (List.take (Try.prog.cellsOf 34) (List.drop 6 [c0, c1, c2, c3, c4, c5, c6, c7, c8, c9, c10])) = some z6 := hz6
    rw [co34] at hw6
    obtain ⟨x6, hx6⟩ := o34 n _ _ (show DataW.trod enc Try.prog w base (fun _ => true) held n 34 [c6] = some z6 from hw6)
    obtain ⟨z7, hz7⟩ := hf 7 _ rfl
    have hw7 : DataW.trod enc Try.prog w base (fun _ => true) held n 44 (List.take (Try.prog.cellsOf 44) (List.drop 7 [c0, c1, c2, c3, c4, c5, c6, c7, c8, c9, c10])) = some z7 := hz7
    rw [co44] at hw7
    obtain ⟨x7, hx7⟩ := o44 n _ _ (show DataW.trod enc Try.prog w base (fun _ => true) held n 44 [c7] = some z7 from hw7)
    obtain ⟨z8, hz8⟩ := hf 8 _ rfl
    have hw8 : DataW.trod enc Try.prog w base (fun _ => true) held n 45 (List.take (Try.prog.cellsOf 45) (List.drop 8 [c0, c1, c2, c3, c4, c5, c6, c7, c8, c9, c10])) = some z8 := hz8
    rw [co45] at hw8
    obtain ⟨x8, hx8⟩ := o45 n _ _ (show DataW.trod enc Try.prog w base (fun _ => true) held n 45 [c8] = some z8 from hw8)
    obtain ⟨z9, hz9⟩ := hf 9 _ rfl
    have hw9 : DataW.trod enc Try.prog w base (fun _ => true) held n 3 (List.take (Try.prog.cellsOf 3) (List.drop 9 [c0, c1, c2, c3, c4, c5, c6, c7, c8, c9, c10])) = some z9 := hz9
    rw [co3] at hw9
    obtain ⟨x9, hx9⟩ := o3 n _ _ (show DataW.trod enc Try.prog w base (fun _ => true) held n 3 [c9] = some z9 from hw9)
    obtain ⟨z10, hz10⟩ := hf 10 _ rfl
    have hw10 : DataW.trod enc Try.prog w base (fun _ => true) held n 3 (List.take (Try.prog.cellsOf 3) (List.drop 10 [c0, c1, c2, c3, c4, c5, c6, c7, c8, c9, c10])) = some z10 := hz10
    rw [co3] at hw10
    obtain ⟨x10, hx10⟩ := o3 n _ _ (show DataW.trod enc Try.prog w base (fun _ => true) held n 3 [c10] = some z10 from hw10)
    obtain ⟨a3, l3, cc3, hv3, r3⟩ := slice_is.1 hx3
    obtain ⟨a6, l6, cc6, hv6, r6⟩ := slice_is.1 hx6
    obtain ⟨a7, l7, cc7, hv7, r7⟩ := slice_is.1 hx7
    obtain ⟨d8, a8, l8, cc8, hv8, r8⟩ := hx8
    cases hv3; cases hv6; cases hv7; cases hv8
    cases hx0; cases hx1; cases hx2; cases hx4; cases hx5; cases hx9; cases hx10
    exact ⟨⟨x0, x1, x2, x3, x4, x5, x6, x7, x8, x9, x10⟩, decl_is.2 ⟨a3, l3, cc3, a6, l6, cc6, a7, l7, cc7, d8, a8, l8, cc8, rfl, r3, r6, r7, r8⟩⟩
theorem o22 : Opens enc Try.prog w base held 22 shUnit := opens_slice Try.underlying22 co47 (by decide) o47
set_option maxRecDepth 100000 in
/-- a unit that came in -/
theorem open_unit {v : Value} {cs : Array Value} (hv : v = .agg cs) {n : Nat} {y : DataW H × List MemPlace} (h : DataW.trod enc Try.prog w base (fun _ => true) held n 24 cs.toList = some y) :
    ∃ a l c ds, v = .agg #[.slice a l c] ∧ Row shDecl (fun k => k < w.heap.size) w a l ds := by
  obtain ⟨n, rfl, hlen, hf⟩ := seg_of Try.underlying24 h
  rw [co24] at hlen
  obtain ⟨L⟩ := cs
  match L, hlen with
  | [c0], _ =>
    obtain ⟨z0, hz0⟩ := hf 0 _ rfl
    have hw0 : DataW.trod enc Try.prog w base (fun _ => true) held n 22 (List.take (Try.prog.cellsOf 22) (List.drop 0 [c0])) = some z0 := hz0
    rw [co22] at hw0
    obtain ⟨x0, hx0⟩ := o22 n _ _ (show DataW.trod enc Try.prog w base (fun _ => true) held n 22 [c0] = some z0 from hw0)
    obtain ⟨a, l, c, hv0, r⟩ := slice_is.1 hx0
    cases hv0
    exact ⟨a, l, c, x0, hv, r⟩
end

end Go.Proofs.Ytnjfbcoddbeggaa
