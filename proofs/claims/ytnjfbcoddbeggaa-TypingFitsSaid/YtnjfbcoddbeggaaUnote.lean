/-
  Notes of a book: what they hold.
-/
import Derived.Test.YtnjfbcoddbeggaaUref
namespace Go.Proofs.Ytnjfbcoddbeggaa
open Go Go.ChangeShapes Go.WideShapes Go.ChangeAt Go.RowKit Go.Joins

def iv (x : Int) : Value := .int .i64 x
theorem info3 : (Try.prog.info? 3).map (fun i => (i.zero, i.size, i.bytes)) = some (some (.int .i64 0), 1, 8) := by kernel_rfl
theorem info_parts {t : TypeId} {z : Option Value} {n m : Nat} (h : (Try.prog.info? t).map (fun i => (i.zero, i.size, i.bytes)) = some (z, n, m)) : ∃ i, Try.prog.info? t = some i ∧ i.zero = z ∧ i.size = n ∧ i.bytes = m := by
  obtain ⟨i, hi, h2⟩ := Option.map_eq_some_iff.1 h
  simp only [Prod.mk.injEq] at h2
  exact ⟨i, hi, h2.1, h2.2.1, h2.2.2⟩
theorem lit_cells (W : World) (cs : Array Value) (t : TypeId) : ∀ j u, cs.toList[j]? = some u → (W.alloc (.cells cs t)).cell? ((⟨W.heap.size, 0, none⟩ : Addr).add j) = some u := by
  intro j u hj
  rw [add_at rfl, Lib.cell_of_heap (heap_alloc_new W _)]
  simpa using hj
theorem own_type {w : World} {base size : Nat} {e : TypeId} {v : Value} {n : Nat} {xs : List Value} (h : w.ownsRow base e size v n xs) {k : Nat} (hv : v.ownBlock = some k) : base ≤ k ∧ k < w.heap.size ∧ ∃ cs fz, w.heap[k]? = some (.cells cs e fz) := by
  rcases h.2 with ⟨h1, _⟩ | ⟨g, cap, cur, h1, hb, hg, _⟩
  · rw [h1] at hv; cases hv
  · rw [h1] at hv
    simp [Value.ownBlock] at hv
    subst hv
    exact ⟨hb, heap_lt hg, _, _, hg⟩
/-- a row of numbers that is one's own, as a row that is read -/
theorem ints_row {S : Nat → Prop} {W : World} {base n : Nat} {a : Option Addr} {l c : Nat} {xs : List Int} (h : W.ownsRow base 3 1 (.slice a l c) n (xs.map iv)) (hS : ∀ k, (Value.slice a l c).ownBlock = some k → S k) : Row shInt S W a l xs ∧ l = n := by
  have hn : xs.length = n := by have := h.1; simpa using this
  subst hn
  have hf : ∀ xs : List Int, (xs.map fun x => [iv x]).flatten = xs.map iv := by intro xs; induction xs with
    | nil => rfl
    | cons x xs ih => simp [ih]
  rcases ownsRow_forms h with ⟨hv, h0⟩ | ⟨g, cap, hv⟩
  · simp at hv
    obtain ⟨rfl, rfl, rfl⟩ := hv
    exact ⟨⟨by omega, fun hp => absurd hp (Nat.lt_irrefl _)⟩, by omega⟩
  · simp at hv
    obtain ⟨rfl, rfl, rfl⟩ := hv
    exact ⟨row_of_own (sh := shInt) (vss := xs.map fun x => [iv x]) (by rw [hf]; exact h) (by simp) (fun i vs x h1 h2 => by
      rw [List.getElem?_map, h2] at h1
      simp at h1
      subst h1
      rfl) hS, rfl⟩

/-! ### the notes of a book -/
structure Notes (W : World) (N l : Nat) (R : Nat → Bool) (B : Nat → Int) (F : Nat → Value) (T : Nat → Int) : Prop where
  blk : ∃ cs, W.heap[N]? = some (.cells cs 127 (0, 0))
  c0 : ∀ i, i < l → W.cell? ⟨N, i * 5, none⟩ = some (.bool (R i))
  c1 : ∀ i, i < l → W.cell? ⟨N, i * 5 + 1, none⟩ = some (.int .i64 (B i))
  c2 : ∀ i, i < l → W.cell? ⟨N, i * 5 + 2, none⟩ = some (F i)
  c4 : ∀ i, i < l → W.cell? ⟨N, i * 5 + 4, none⟩ = some (.int .i64 (T i))
section
variable {W W' : World} {N l : Nat} {R : Nat → Bool} {B : Nat → Int} {F : Nat → Value} {T : Nat → Int}
theorem Notes.keep (h : Notes W N l R B F T) (hk : W'.heap[N]? = W.heap[N]?) : Notes W' N l R B F T := by
  have hc : ∀ o, W'.cell? ⟨N, o, none⟩ = W.cell? ⟨N, o, none⟩ := fun o => World.cell?_of_block (a := ⟨N, o, none⟩) hk
  obtain ⟨⟨cs, h0⟩, h1, h2, h3, h4⟩ := h
  exact ⟨⟨cs, hk.trans h0⟩, fun i hi => (hc _).trans (h1 i hi), fun i hi => (hc _).trans (h2 i hi), fun i hi => (hc _).trans (h3 i hi), fun i hi => (hc _).trans (h4 i hi)⟩
theorem Notes.lt (h : Notes W N l R B F T) : N < W.heap.size := by obtain ⟨cs, h0⟩ := h.blk; exact heap_lt h0
theorem Notes.fz (h : Notes W N l R B F T) (k : Nat) : W.frozen? ⟨N, k, none⟩ = false := by obtain ⟨cs, h0⟩ := h.blk; simp [World.frozen?, h0]
theorem set_at {a : Addr} {u v : Value} (h : W.cell? a = some u) (o : Nat) (ha : a.spot = none) : (W.setCell a v).cell? ⟨a.block, o, none⟩ = if o = a.off then some v else W.cell? ⟨a.block, o, none⟩ := by
  by_cases ho : o = a.off
  · subst ho
    rw [if_pos rfl]
    have : (⟨a.block, a.off, none⟩ : Addr) = a := by cases a; simp_all
    rw [this]
    exact World.cell?_setCell_same _ _ _ h
  · rw [if_neg ho]
    exact World.cell?_setCell_other _ _ _ _ (fun e => ho (by rw [e]))
theorem blk_set {o : Nat} {v : Value} (h : ∃ cs, W.heap[N]? = some (.cells cs 127 (0, 0))) : ∃ cs, (W.setCell ⟨N, o, none⟩ v).heap[N]? = some (.cells cs 127 (0, 0)) := by
  obtain ⟨cs, h0⟩ := h
  exact ⟨_, by simp [World.setCell, Array.getElem?_modify, h0]; rfl⟩
theorem Notes.set0 (h : Notes W N l R B F T) {i : Nat} (hi : i < l) (v : Bool) : Notes (W.setCell ⟨N, i * 5, none⟩ (.bool v)) N l (fun j => if j = i then v else R j) B F T := by
  have hs := fun o => set_at (v := .bool v) (h.c0 i hi) o rfl
  simp only at hs
  refine ⟨blk_set h.blk, fun j hj => ?_, fun j hj => ?_, fun j hj => ?_, fun j hj => ?_⟩
  · rw [hs]; by_cases hji : j = i
    · subst hji; simp
    · rw [if_neg (by omega), if_neg hji]; exact h.c0 j hj
  · rw [hs, if_neg (by omega)]; exact h.c1 j hj
  · rw [hs, if_neg (by omega)]; exact h.c2 j hj
  · rw [hs, if_neg (by omega)]; exact h.c4 j hj
theorem Notes.set1 (h : Notes W N l R B F T) {i : Nat} (hi : i < l) (v : Int) : Notes (W.setCell ⟨N, i * 5 + 1, none⟩ (.int .i64 v)) N l R (fun j => if j = i then v else B j) F T := by
  have hs := fun o => set_at (v := .int .i64 v) (h.c1 i hi) o rfl
  simp only at hs
  refine ⟨blk_set h.blk, fun j hj => ?_, fun j hj => ?_, fun j hj => ?_, fun j hj => ?_⟩
  · rw [hs, if_neg (by omega)]; exact h.c0 j hj
  · rw [hs]; by_cases hji : j = i
    · subst hji; simp
    · rw [if_neg (by omega), if_neg hji]; exact h.c1 j hj
  · rw [hs, if_neg (by omega)]; exact h.c2 j hj
  · rw [hs, if_neg (by omega)]; exact h.c4 j hj
theorem Notes.set2 (h : Notes W N l R B F T) {i : Nat} (hi : i < l) (v : Value) : Notes (W.setCell ⟨N, i * 5 + 2, none⟩ v) N l R B (fun j => if j = i then v else F j) T := by
  have hs := fun o => set_at (v := v) (h.c2 i hi) o rfl
  simp only at hs
  refine ⟨blk_set h.blk, fun j hj => ?_, fun j hj => ?_, fun j hj => ?_, fun j hj => ?_⟩
  · rw [hs, if_neg (by omega)]; exact h.c0 j hj
  · rw [hs, if_neg (by omega)]; exact h.c1 j hj
  · rw [hs]; by_cases hji : j = i
    · subst hji; simp
    · rw [if_neg (by omega), if_neg hji]; exact h.c2 j hj
  · rw [hs, if_neg (by omega)]; exact h.c4 j hj
theorem Notes.set4 (h : Notes W N l R B F T) {i : Nat} (hi : i < l) (v : Int) : Notes (W.setCell ⟨N, i * 5 + 4, none⟩ (.int .i64 v)) N l R B F (fun j => if j = i then v else T j) := by
  have hs := fun o => set_at (v := .int .i64 v) (h.c4 i hi) o rfl
  simp only at hs
  refine ⟨blk_set h.blk, fun j hj => ?_, fun j hj => ?_, fun j hj => ?_, fun j hj => ?_⟩
  · rw [hs, if_neg (by omega)]; exact h.c0 j hj
  · rw [hs, if_neg (by omega)]; exact h.c1 j hj
  · rw [hs, if_neg (by omega)]; exact h.c2 j hj
  · rw [hs]; by_cases hji : j = i
    · subst hji; simp
    · rw [if_neg (by omega), if_neg hji]; exact h.c4 j hj
end

/-- what a function of a book leaves alone: what lies below lo, and what the caller says -/
structure Kp (lo : Nat) (X : Nat → Prop) (W W' : World) : Prop where
  os : W'.os = W.os
  tape : W'.tape = W.tape
  output : W'.output = W.output
  size : W.heap.size ≤ W'.heap.size
  block : ∀ k, k < W.heap.size → k < lo ∨ X k → W'.heap[k]? = W.heap[k]?
theorem Kp.refl (lo : Nat) (X : Nat → Prop) (W : World) : Kp lo X W W := ⟨rfl, rfl, rfl, Nat.le_refl _, fun _ _ _ => rfl⟩
theorem Kp.trans {lo : Nat} {X : Nat → Prop} {W W1 W2 : World} (h : Kp lo X W W1) (h' : Kp lo X W1 W2) : Kp lo X W W2 :=
  ⟨h'.os.trans h.os, h'.tape.trans h.tape, h'.output.trans h.output, Nat.le_trans h.size h'.size, fun k hk hx => (h'.block k (Nat.lt_of_lt_of_le hk h.size) hx).trans (h.block k hk hx)⟩
theorem Kp.sub {lo : Nat} {X X' : Nat → Prop} {W W' : World} (h : Kp lo X W W') (hx : ∀ k, k < W.heap.size → X' k → X k ∨ k < lo) : Kp lo X' W W' :=
  ⟨h.os, h.tape, h.output, h.size, fun k hk hq => h.block k hk (hq.elim .inl (fun h2 => (hx k hk h2).symm))⟩
theorem Kp.set {lo : Nat} {X : Nat → Prop} {W : World} (a : Addr) (v : Value) (h1 : lo ≤ a.block) (h2 : ¬ X a.block) : Kp lo X W (W.setCell a v) :=
  ⟨rfl, rfl, rfl, by simp [World.setCell], fun k hk hx => by
    have : a.block ≠ k := by rintro rfl; rcases hx with h | h; omega; exact h2 h
    simp [World.setCell, Array.getElem?_modify, this]⟩
theorem Kp.alloc (lo : Nat) (X : Nat → Prop) (W : World) (o : Obj) : Kp lo X W (W.alloc o) := ⟨rfl, rfl, rfl, by simp, fun k hk _ => Below.heap_alloc W o k hk⟩
theorem Kp.below {lo : Nat} {X : Nat → Prop} {W W' : World} (h : Kp lo X W W') (hl : lo ≤ W.heap.size) : Below lo W W' := ⟨h.os, h.tape, h.output, h.size, fun k hk => h.block k (by omega) (.inl hk)⟩
theorem Kp.of {lo : Nat} {X : Nat → Prop} {W W' : World} (h : Below W.heap.size W W') : Kp lo X W W' := ⟨h.os, h.tape, h.output, h.size, fun k hk _ => h.block k hk⟩
theorem Kp.drew {lo : Nat} {X : Nat → Prop} {W W' : World} (h : Kp lo X W W') (n : Nat) : Kp lo X W (W'.drewN n) := ⟨h.os, h.tape, h.output, h.size, h.block⟩

def BkC (W : World) (b : Nat) (a : Option Addr) (l c : Nat) (nv : Value) (g1 g2 g3 : Nat) (t : Int) : Prop :=
  W.heap[b]? = some (.cells #[.slice a l c, .map none, nv, .map (some g1), .map (some g2), .map (some g3), .int .i64 t] 116 (0, 0))
/-- a note that says what it is to say -/
def FaceOk (ds : List DeclU) (lo : Nat) (X : Nat → Prop) (W : World) (b N : Nat) (r : Bool) (bs : Int) (fv : Value) (i : Nat) : Prop :=
  (r = false → fv = .slice none 0 0) ∧ (r = true → bs = nextU ds i ∧ ∃ fa fl fc, fv = .slice fa fl fc ∧ Row shInt (fun k => lo ≤ k ∧ k < W.heap.size ∧ k ≠ b ∧ k ≠ N ∧ ¬ X k) W fa fl (facesOf ds i))
/-- a book: as it stands -/
structure Bk (ds : List DeclU) (lim lo : Nat) (X : Nat → Prop) (W : World) (b : Nat) (a : Option Addr) (l c g1 g2 g3 : Nat) (t : Int) : Prop where
  row : Row shDecl (fun k => k < lim) W a l ds
  few : l ≤ 16
  few8 : Few ds
  lim : lim ≤ lo
  lob : lo ≤ b
  xb : ¬ X b
  xlo : ∀ k, X k → lo ≤ k
  turn : 0 ≤ t ∧ t ≤ 1000
/-- .. with notes -/
structure BkN (ds : List DeclU) (lim lo : Nat) (X : Nat → Prop) (W : World) (b : Nat) (a : Option Addr) (l c g1 g2 g3 : Nat) (t : Int) (met : List Int) (N : Nat) (R : Nat → Bool) (B : Nat → Int) (F : Nat → Value) (T : Nat → Int) : Prop where
  bk : Bk ds lim lo X W b a l c g1 g2 g3 t
  blk : BkC W b a l c (.slice (some ⟨N, 0, none⟩) l l) g1 g2 g3 t
  notes : Notes W N l R B F T
  loN : lo ≤ N
  nb : N ≠ b
  xN : ¬ X N
  stamp : ∀ i, i < l → T i ≤ t ∧ (T i = t ↔ (i : Int) ∈ met)
  ok : ∀ i, i < l → FaceOk ds lo X W b N (R i) (B i) (F i) i
def BkAny (ds : List DeclU) (lim lo : Nat) (X : Nat → Prop) (W : World) (b : Nat) (a : Option Addr) (l c g1 g2 g3 : Nat) (t : Int) (met : List Int) : Prop :=
  (Bk ds lim lo X W b a l c g1 g2 g3 t ∧ BkC W b a l c (.slice none 0 0) g1 g2 g3 t ∧ met = []) ∨ ∃ N R B F T, BkN ds lim lo X W b a l c g1 g2 g3 t met N R B F T
section
variable {ds : List DeclU} {lim lo : Nat} {X : Nat → Prop} {W W' : World} {b : Nat} {a : Option Addr} {l c g1 g2 g3 : Nat} {t : Int} {met : List Int} {N : Nat} {R : Nat → Bool} {B : Nat → Int} {F : Nat → Value} {T : Nat → Int}
theorem FaceOk.over {r : Bool} {bs : Int} {fv : Value} {i : Nat} (h : FaceOk ds lo X W b N r bs fv i) (hs : W.heap.size ≤ W'.heap.size) (hk : ∀ k, k < W.heap.size → lo ≤ k → k ≠ b → k ≠ N → ¬ X k → W'.heap[k]? = W.heap[k]?) : FaceOk ds lo X W' b N r bs fv i := by
  refine ⟨h.1, fun hr => ?_⟩
  obtain ⟨h1, fa, fl, fc, h2, h3⟩ := h.2 hr
  exact ⟨h1, fa, fl, fc, h2, (h3.keep (fun k hq => hk k hq.2.1 hq.1 hq.2.2.1 hq.2.2.2.1 hq.2.2.2.2)).wide (fun k hq => ⟨hq.1, Nat.lt_of_lt_of_le hq.2.1 hs, hq.2.2⟩)⟩
theorem FaceOk.turnX {X' : Nat → Prop} {r : Bool} {bs : Int} {fv : Value} {i : Nat} (h : FaceOk ds lo X W b N r bs fv i) (hx : ∀ k, X' k → X k ∨ W.heap.size ≤ k) : FaceOk ds lo X' W b N r bs fv i := by
  refine ⟨h.1, fun hr => ?_⟩
  obtain ⟨h1, fa, fl, fc, h2, h3⟩ := h.2 hr
  exact ⟨h1, fa, fl, fc, h2, h3.wide (fun k hq => ⟨hq.1, hq.2.1, hq.2.2.1, hq.2.2.2.1, fun hc => (hx k hc).elim hq.2.2.2.2 (fun h => by have := hq.2.1; omega)⟩)⟩
theorem Bk.over (h : Bk ds lim lo X W b a l c g1 g2 g3 t) (hk : ∀ k, k < lim → W'.heap[k]? = W.heap[k]?) : Bk ds lim lo X W' b a l c g1 g2 g3 t := ⟨h.row.keep hk, h.few, h.few8, h.lim, h.lob, h.xb, h.xlo, h.turn⟩
/-- what changes only what the caller has, or makes new memory -/
theorem BkN.over (h : BkN ds lim lo X W b a l c g1 g2 g3 t met N R B F T) (hs : W.heap.size ≤ W'.heap.size) (hk : ∀ k, k < W.heap.size → ¬ X k → W'.heap[k]? = W.heap[k]?) : BkN ds lim lo X W' b a l c g1 g2 g3 t met N R B F T := by
  have hbl := heap_lt h.blk
  have hxl : ∀ k, k < lo → ¬ X k := fun k hk hx => by have := h.bk.xlo k hx; omega
  exact ⟨h.bk.over (fun k hq => hk k (by have := h.bk.lim; have := h.bk.lob; omega) (hxl k (by have := h.bk.lim; omega))), (hk b hbl h.bk.xb).trans h.blk, h.notes.keep (hk N h.notes.lt h.xN), h.loN, h.nb, h.xN, h.stamp, fun i hi => (h.ok i hi).over hs (fun k h1 _ _ _ h5 => hk k h1 h5)⟩
theorem BkAny.over (h : BkAny ds lim lo X W b a l c g1 g2 g3 t met) (hs : W.heap.size ≤ W'.heap.size) (hk : ∀ k, k < W.heap.size → ¬ X k → W'.heap[k]? = W.heap[k]?) : BkAny ds lim lo X W' b a l c g1 g2 g3 t met := by
  rcases h with ⟨h1, h2, h3⟩ | ⟨N, R, B, F, T, h⟩
  · have hbl := heap_lt h2
    have hxl : ∀ k, k < lo → ¬ X k := fun k hk hx => by have := h1.xlo k hx; omega
    exact .inl ⟨h1.over (fun k hq => hk k (by have := h1.lim; have := h1.lob; omega) (hxl k (by have := h1.lim; omega))), (hk b hbl h1.xb).trans h2, h3⟩
  · exact .inr ⟨N, R, B, F, T, h.over hs hk⟩
theorem Bk.turnX {X' : Nat → Prop} (h : Bk ds lim lo X W b a l c g1 g2 g3 t) (hb : b < W.heap.size) (hlo : lo ≤ W.heap.size) (hx : ∀ k, X' k → X k ∨ W.heap.size ≤ k) : Bk ds lim lo X' W b a l c g1 g2 g3 t :=
  ⟨h.row, h.few, h.few8, h.lim, h.lob, fun hc => (hx b hc).elim h.xb (fun h => by omega), fun k hc => (hx k hc).elim (h.xlo k) (fun h => by omega), h.turn⟩
theorem BkN.turnX {X' : Nat → Prop} (h : BkN ds lim lo X W b a l c g1 g2 g3 t met N R B F T) (hx : ∀ k, X' k → X k ∨ W.heap.size ≤ k) : BkN ds lim lo X' W b a l c g1 g2 g3 t met N R B F T :=
  have hb := heap_lt h.blk
  ⟨h.bk.turnX hb (by have := h.bk.lob; omega) hx, h.blk, h.notes, h.loN, h.nb, fun hc => (hx N hc).elim h.xN (fun h2 => by have := h.notes.lt; omega), h.stamp, fun i hi => (h.ok i hi).turnX hx⟩
theorem BkAny.turnX {X' : Nat → Prop} (h : BkAny ds lim lo X W b a l c g1 g2 g3 t met) (hx : ∀ k, X' k → X k ∨ W.heap.size ≤ k) : BkAny ds lim lo X' W b a l c g1 g2 g3 t met := by
  rcases h with ⟨h1, h2, h3⟩ | ⟨N, R, B, F, T, h⟩
  · have hb := heap_lt h2
    exact .inl ⟨h1.turnX hb (by have := h1.lob; omega) hx, h2, h3⟩
  · exact .inr ⟨N, R, B, F, T, h.turnX hx⟩
theorem BkAny.bk (h : BkAny ds lim lo X W b a l c g1 g2 g3 t met) : Bk ds lim lo X W b a l c g1 g2 g3 t ∧ (∃ nv, BkC W b a l c nv g1 g2 g3 t) ∧ b < W.heap.size := by
  rcases h with ⟨h1, h2, _⟩ | ⟨N, R, B, F, T, h⟩
  · exact ⟨h1, ⟨_, h2⟩, heap_lt h2⟩
  · exact ⟨h.bk, ⟨_, h.blk⟩, heap_lt h.blk⟩
end

end Go.Proofs.Ytnjfbcoddbeggaa
