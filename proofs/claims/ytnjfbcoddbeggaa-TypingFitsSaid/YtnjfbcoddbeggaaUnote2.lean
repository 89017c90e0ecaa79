/-
  Notes of a book: made, stamped.
-/
import Derived.Test.YtnjfbcoddbeggaaUnote
import Derived.Laws.MakeOwn
namespace Go.Proofs.Ytnjfbcoddbeggaa
open Go Go.ChangeShapes Go.WideShapes Go.ChangeAt Go.RowKit Go.Joins

theorem info127 : (Try.prog.info? 127).map (fun i => (i.zero, i.size, i.bytes)) = some (some (.agg #[.bool false, .int .i64 0, .slice none 0 0, .map none, .int .i64 0]), 5, 56) := by kernel_rfl
theorem heap_new {w : World} {o : Obj} {g : Nat} (h : g = w.heap.size) : (w.alloc o).heap[g]? = some (match o with | .cells cs t f => .cells cs t f | o => o) := by subst h; rw [heap_alloc_new]; cases o <;> rfl
theorem heap_old {w : World} {o : Obj} {g : Nat} (h : g < w.heap.size) : (w.alloc o).heap[g]? = w.heap[g]? := Below.heap_alloc w o g h
theorem made_cell (z : Array Value) (n k : Nat) (hk : k < n) : (madeCells z n)[k]? = some (z[k % z.size]!) := by
  unfold madeCells
  simp [hk]
def notesZ (l : Nat) : Array Value := madeCells #[.bool false, .int .i64 0, .slice none 0 0, .map none, .int .i64 0] (l * 5)
theorem made_note (W : World) (l : Nat) (hl : l ≤ 16) : (Instr.makeSlice 114 (.int .i64 (l : Int)) (.int .i64 (l : Int))).run Try.prog W = .ok (.slice (some ⟨W.heap.size, 0, none⟩) l l) (W.alloc (.cells (notesZ l) 127)) := by
  obtain ⟨i, hi, h1, h2, h3⟩ := info_parts info127
  have h := run_makeSlice (P := Try.prog) W 114 127 i (.agg #[.bool false, .int .i64 0, .slice none 0 0, .map none, .int .i64 0]) Try.underlying114 hi h1 .i64 .i64 (l : Int) (l : Int) (by omega) (by omega) (by rw [h2]; simp; omega) (by rw [h3]; omega) (by omega)
  rw [h, h2]
  rfl
theorem notes_new (W : World) (l : Nat) : Notes (W.alloc (.cells (notesZ l) 127)) W.heap.size l (fun _ => false) (fun _ => 0) (fun _ => .slice none 0 0) (fun _ => 0) := by
  have h0 : (W.alloc (.cells (notesZ l) 127)).heap[W.heap.size]? = some (.cells (notesZ l) 127 (0, 0)) := heap_alloc_new W _
  have hc : ∀ i j (hj : j < 5), i < l → (W.alloc (.cells (notesZ l) 127)).cell? ⟨W.heap.size, i * 5 + j, none⟩ = some ((#[.bool false, .int .i64 0, .slice none 0 0, .map none, .int .i64 0] : Array Value)[j]!) := by
    intro i j hj hi
    rw [Lib.cell_of_heap h0]
    show (madeCells _ _)[_]? = _
    rw [made_cell _ _ _ (by omega)]
    congr 2
    show (i * 5 + j) % 5 = j
    omega
  exact ⟨⟨_, h0⟩, fun i hi => hc i 0 (by omega) hi, fun i hi => hc i 1 (by omega) hi, fun i hi => hc i 2 (by omega) hi, fun i hi => hc i 4 (by omega) hi⟩

section
variable {ds : List DeclU} {lim lo : Nat} {X : Nat → Prop} {b : Nat} {a : Option Addr} {l c g1 g2 g3 : Nat} {t : Int} {met : List Int}
/-- a note is there -/
inductive NPost (ds : List DeclU) (lim lo : Nat) (X : Nat → Prop) (W W' : World) (b : Nat) (a : Option Addr) (l c g1 g2 g3 : Nat) (t : Int) (met : List Int) (i : Nat) (e : Ending) : Prop
  | mk (N : Nat) (R : Nat → Bool) (B : Nat → Int) (F : Nat → Value) (T : Nat → Int) (h1 : e = .returned (.pointer (some ⟨N, i * 5, none⟩))) (h2 : BkN ds lim lo X W' b a l c g1 g2 g3 t met N R B F T) (h3 : Kp lo X W W') : NPost ds lim lo X W W' b a l c g1 g2 g3 t met i e

set_option maxHeartbeats 1600000 in
set_option maxRecDepth 100000 in
theorem note_any (W : World) (h : BkAny ds lim lo X W b a l c g1 g2 g3 t met) (ht : 1 ≤ t) (hx : ∀ k, X k → k < W.heap.size) (i : Nat) (hi : i < l) :
    Calls Try.prog 98 #[.pointer (some ⟨b, 0, none⟩), .int .i64 i] W fun e W' => NPost ds lim lo X W W' b a l c g1 g2 g3 t met i e := by
  have i0 : (i : Int) < (l : Int) := by omega
  have i1 : (0 : Int) ≤ (i : Int) := by omega
  have hn := fun (w : World) (a : Option Addr) (n c n' c' : Nat) => Lib.run_eql_slice_nil (P := Try.prog) w 114 127 a n c n' c' Try.underlying114
  have hm := fun (w : World) => made_note w l h.bk.1.few
  rcases h with ⟨h1, h2, h3⟩ | ⟨N, R, B, F, T, h⟩
  · have c0 : W.cell? ⟨b, 0, none⟩ = some (.slice a l c) := by rw [Lib.cell_of_heap h2]; rfl
    have c2 : W.cell? ⟨b, 2, none⟩ = some (.slice none 0 0) := by rw [Lib.cell_of_heap h2]; rfl
    have fz : W.frozen? ⟨b, 2, none⟩ = false := by unfold BkC at h2; simp [World.frozen?, h2]
    have hbl := heap_lt h2
    have H1 := Lib.hid h1
    have H2 := Lib.hid h2
    subst h3
    clear h1 h2
    go_enter Try.func98, Try.ntmps98
    go_wp2_with fail
    go_returns
    have hs : (W.setCell ⟨b, 2, none⟩ (.slice (some ⟨W.heap.size, 0, none⟩) l l)).heap.size = W.heap.size := by simp
    have hk0 : Kp lo X W (W.setCell ⟨b, 2, none⟩ (.slice (some ⟨W.heap.size, 0, none⟩) l l)) := Kp.set _ _ H1.out.lob H1.out.xb
    have hk := hk0.trans (Kp.alloc lo X _ (.cells (notesZ l) 127))
    have hN := notes_new (W.setCell ⟨b, 2, none⟩ (.slice (some ⟨W.heap.size, 0, none⟩) l l)) l
    rw [hs] at hN
    have hlob := H1.out.lob
    have hlim := H1.out.lim
    refine ⟨W.heap.size, _, _, _, _, by simp, ⟨H1.out.over (fun k hk2 => hk.block k (by omega) (.inl (by omega))), ?_, hN, by omega, by omega, fun h => by have := hx _ h; omega, fun j _ => ⟨by omega, ⟨fun h => by omega, fun h => by simp at h⟩⟩, fun j _ => ⟨fun _ => rfl, fun h => by cases h⟩⟩, hk⟩
    show _ = _
    rw [Below.heap_alloc _ _ _ (by rw [hs]; exact hbl)]
    have := H2.out
    unfold BkC at this
    simp [World.setCell, Array.getElem?_modify, this]
  · have c2 : W.cell? ⟨b, 2, none⟩ = some (.slice (some ⟨N, 0, none⟩) l l) := by rw [Lib.cell_of_heap h.blk]; rfl
    have H := Lib.hid h
    clear h
    go_enter Try.func98, Try.ntmps98
    go_wp2_with fail
    go_returns
    exact ⟨N, R, B, F, T, by simp, H.out, Kp.refl _ _ _⟩

/-- the stamp goes on -/
inductive BPost (ds : List DeclU) (lim lo : Nat) (X : Nat → Prop) (W W' : World) (b : Nat) (a : Option Addr) (l c g1 g2 g3 : Nat) (t : Int) (e : Ending) : Prop
  | mk (p q : Nat) (h1 : e = .returned (.func (.func 97) #[] #[.pointer (some ⟨p, 0, none⟩), .pointer (some ⟨q, 0, none⟩)])) (h2 : BkAny ds lim lo (fun k => X k ∨ k = p ∨ k = q) W' b a l c g1 g2 g3 (t + 1) []) (h3 : Kp lo X W W')
      (hp : W'.cell? ⟨p, 0, none⟩ = some (.pointer (some ⟨b, 0, none⟩))) (hq : W'.cell? ⟨q, 0, none⟩ = some (.int .i64 (t + 1))) (p0 : W.heap.size ≤ p) (q0 : W.heap.size ≤ q) (p1 : p < W'.heap.size) (q1 : q < W'.heap.size)
      (hbp : ∀ k, k < W.heap.size → k ≠ b → W'.heap[k]? = W.heap[k]?) : BPost ds lim lo X W W' b a l c g1 g2 g3 t e
theorem stamp_on {W W' : World} (h : BkAny ds lim lo X W b a l c g1 g2 g3 t met) (ht : t ≤ 900) (hs : W.heap.size ≤ W'.heap.size) (hk : ∀ k, k < W.heap.size → k ≠ b → W'.heap[k]? = W.heap[k]?) (hb : ∀ nv, BkC W b a l c nv g1 g2 g3 t → BkC W' b a l c nv g1 g2 g3 (t + 1)) :
    BkAny ds lim lo X W' b a l c g1 g2 g3 (t + 1) [] := by
  have hbk : Bk ds lim lo X W' b a l c g1 g2 g3 (t + 1) := by
    have h1 := h.bk.1
    have := h.bk.2.2
    have := h1.turn
    exact ⟨h1.row.keep (fun k hq => hk k (by have := h1.lim; have := h1.lob; omega) (by have := h1.lim; have := h1.lob; omega)), h1.few, h1.few8, h1.lim, h1.lob, h1.xb, h1.xlo, by omega⟩
  rcases h with ⟨h1, h2, h3⟩ | ⟨N, R, B, F, T, h⟩
  · exact .inl ⟨hbk, hb _ h2, rfl⟩
  · refine .inr ⟨N, R, B, F, T, hbk, hb _ h.blk, h.notes.keep (hk N h.notes.lt h.nb), h.loN, h.nb, h.xN, fun i hi => ?_, fun i hi => (h.ok i hi).over hs (fun k h1 _ h3 _ _ => hk k h1 h3)⟩
    have := (h.stamp i hi).1
    exact ⟨by omega, ⟨fun h => by omega, fun h => by simp at h⟩⟩
set_option maxHeartbeats 1600000 in
set_option maxRecDepth 100000 in
theorem begin_any (W : World) (h : BkAny ds lim lo X W b a l c g1 g2 g3 t met) (ht : t ≤ 900) :
    Calls Try.prog 74 #[.pointer (some ⟨b, 0, none⟩)] W fun e W' => BPost ds lim lo X W W' b a l c g1 g2 g3 t e := by
  obtain ⟨h1, ⟨nv, h2⟩, hlt⟩ := h.bk
  have c6 : W.cell? ⟨b, 6, none⟩ = some (.int .i64 t) := by rw [Lib.cell_of_heap h2]; rfl
  have f6 : W.frozen? ⟨b, 6, none⟩ = false := by unfold BkC at h2; simp [World.frozen?, h2]
  have hmf : ∀ (fn : Fn) (first cap : Array Value) (w : World), (Instr.makeFunc fn first cap).run Try.prog w = .ok (.func fn first cap) w := fun _ _ _ _ => rfl
  have hw : wrap64 (t + 1) = t + 1 := IntWalk.wrap64_in _ (by have := h1.turn; omega)
  have H := Lib.hid h
  have HB := Lib.hid h1
  clear h h1 h2
  go_enter Try.func74, Try.ntmps74
  go_wp2_with fail
  go_returns
  have hs : (W.setCell ⟨b, 6, none⟩ (.int .i64 (t + 1))).heap.size = W.heap.size := by simp
  have hk : Kp lo X W _ := ((Kp.set (W := W) ⟨b, 6, none⟩ (.int .i64 (t + 1)) HB.out.lob HB.out.xb).trans (Kp.alloc lo X _ (.cells #[.pointer (some ⟨b, 0, none⟩)] 79))).trans (Kp.alloc lo X _ (.cells #[.int .i64 (t + 1)] 3))
  have hk2 : Kp 0 (fun k => k ≠ b) W _ := ((Kp.set (W := W) ⟨b, 6, none⟩ (.int .i64 (t + 1)) (Nat.zero_le _) (by simp)).trans (Kp.alloc 0 (fun k => k ≠ b) _ (.cells #[.pointer (some ⟨b, 0, none⟩)] 79))).trans (Kp.alloc 0 (fun k => k ≠ b) _ (.cells #[.int .i64 (t + 1)] 3))
  have hsz : (((W.setCell ⟨b, 6, none⟩ (.int .i64 (t + 1))).alloc (.cells #[.pointer (some ⟨b, 0, none⟩)] 79)).alloc (.cells #[.int .i64 (t + 1)] 3)).heap.size = W.heap.size + 2 := by simp
  have hP : (((W.setCell ⟨b, 6, none⟩ (.int .i64 (t + 1))).alloc (.cells #[.pointer (some ⟨b, 0, none⟩)] 79)).alloc (.cells #[.int .i64 (t + 1)] 3)).heap[W.heap.size]? = some (.cells #[.pointer (some ⟨b, 0, none⟩)] 79 (0, 0)) := (heap_old (by simp)).trans (heap_new hs.symm)
  have hQ : (((W.setCell ⟨b, 6, none⟩ (.int .i64 (t + 1))).alloc (.cells #[.pointer (some ⟨b, 0, none⟩)] 79)).alloc (.cells #[.int .i64 (t + 1)] 3)).heap[W.heap.size + 1]? = some (.cells #[.int .i64 (t + 1)] 3 (0, 0)) := heap_new (by simp)
  refine ⟨W.heap.size, W.heap.size + 1, by simp, stamp_on (H.out.turnX (X' := fun k => X k ∨ k = W.heap.size ∨ k = W.heap.size + 1) (fun k h => by rcases h with h | h | h; exact .inl h; exact .inr (by omega); exact .inr (by omega))) ht hk.size (fun k h1 h2 => hk2.block k h1 (.inr h2)) (fun nv h2 => ?_), hk, by rw [Lib.cell_of_heap hP]; rfl, by rw [Lib.cell_of_heap hQ]; rfl, Nat.le_refl _, by omega, by rw [hsz]; omega, by rw [hsz]; omega, fun k h1 h2 => hk2.block k h1 (.inr h2)⟩
  show _ = _
  rw [heap_old (by simp; omega), heap_old (by simp; omega)]
  unfold BkC at h2
  simp [World.setCell, Array.getElem?_modify, h2]

theorem addNew_one {met : List Int} {i x : Int} : x ∈ addNew met i ↔ x ∈ met ∨ x = i := by
  have := addNew_mem (x := x) [i] met
  simpa using this
/-- is it there for the first time? -/
inductive FPost (ds : List DeclU) (lim lo : Nat) (X : Nat → Prop) (W W' : World) (b : Nat) (a : Option Addr) (l c g1 g2 g3 : Nat) (t : Int) (met : List Int) (d : Int) (e : Ending) : Prop
  | mk (h1 : e = .returned (.bool (!met.contains d))) (h2 : BkAny ds lim lo X W' b a l c g1 g2 g3 t (addNew met d)) (h3 : Kp lo X W W') : FPost ds lim lo X W W' b a l c g1 g2 g3 t met d e
/-- a cell of the notes is written: what else stays -/
theorem BkN.wrote {N : Nat} {R R' : Nat → Bool} {B B' : Nat → Int} {F F' : Nat → Value} {T T' : Nat → Int} {W : World} {met' : List Int} (h : BkN ds lim lo X W b a l c g1 g2 g3 t met N R B F T) (o : Nat) (v : Value)
    (hn : Notes (W.setCell ⟨N, o, none⟩ v) N l R' B' F' T') (hst : ∀ i, i < l → T' i ≤ t ∧ (T' i = t ↔ (i : Int) ∈ met')) (hok : ∀ i, i < l → FaceOk ds lo X W b N (R' i) (B' i) (F' i) i) : BkN ds lim lo X (W.setCell ⟨N, o, none⟩ v) b a l c g1 g2 g3 t met' N R' B' F' T' := by
  have hk : ∀ k, k ≠ N → (W.setCell ⟨N, o, none⟩ v).heap[k]? = W.heap[k]? := fun k hk => by simp [World.setCell, Array.getElem?_modify, Ne.symm hk]
  have hl := h.loN
  exact ⟨h.bk.over (fun k hq => hk k (by have := h.bk.lim; omega)), (hk b (Ne.symm h.nb)).trans h.blk, hn, h.loN, h.nb, h.xN, hst, fun i hi => (hok i hi).over (by simp) (fun k _ _ _ h4 _ => hk k h4)⟩
theorem BkN.drew {N : Nat} {R : Nat → Bool} {B : Nat → Int} {F : Nat → Value} {T : Nat → Int} {W : World} (h : BkN ds lim lo X W b a l c g1 g2 g3 t met N R B F T) (n : Nat) : BkN ds lim lo X (W.drewN n) b a l c g1 g2 g3 t met N R B F T :=
  h.over (Nat.le_refl _) (fun _ _ _ => rfl)
theorem BkN.stamped {N : Nat} {R : Nat → Bool} {B : Nat → Int} {F : Nat → Value} {T : Nat → Int} {W : World} (h : BkN ds lim lo X W b a l c g1 g2 g3 t met N R B F T) {i : Nat} (hi : i < l) :
    BkN ds lim lo X (W.setCell ⟨N, i * 5 + 4, none⟩ (.int .i64 t)) b a l c g1 g2 g3 t (addNew met i) N R B F (fun j => if j = i then t else T j) := by
  refine h.wrote _ _ (h.notes.set4 hi t) (fun j hj => ?_) h.ok
  by_cases hji : j = i
  · subst hji
    rw [if_pos rfl]
    exact ⟨Int.le_refl _, ⟨fun _ => addNew_one.2 (.inr rfl), fun _ => rfl⟩⟩
  · rw [if_neg hji]
    refine ⟨(h.stamp j hj).1, (h.stamp j hj).2.trans ⟨fun h => addNew_one.2 (.inl h), fun h => ?_⟩⟩
    rcases addNew_one.1 h with h | h
    · exact h
    · omega
set_option maxHeartbeats 1600000 in
set_option maxRecDepth 100000 in
theorem first_any (W : World) (h : BkAny ds lim lo X W b a l c g1 g2 g3 t met) (ht : 1 ≤ t) (hx : ∀ k, X k → k < W.heap.size) (i : Nat) (hi : i < l) (p q : Nat) (hp : W.cell? ⟨p, 0, none⟩ = some (.pointer (some ⟨b, 0, none⟩))) (hq : W.cell? ⟨q, 0, none⟩ = some (.int .i64 t)) (xq : X q) :
    Calls Try.prog 97 #[.int .i64 i, .pointer (some ⟨p, 0, none⟩), .pointer (some ⟨q, 0, none⟩)] W fun e W' => FPost ds lim lo X W W' b a l c g1 g2 g3 t met i e := by
  have hn := note_any W h ht hx i hi
  have HX := Lib.hid hx
  have HQ := Lib.hid hq
  clear h hx hq
  go_enter Try.func97, Try.ntmps97
  go_wp2_with (go_at_call 98; refine hn.mono ?_)
  rintro e W1 ⟨N, R, B, F, T, rfl, hb, hk⟩
  clear hn hp
  have q1 : W1.cell? ⟨q, 0, none⟩ = some (.int .i64 t) := (World.cell?_of_block (a := ⟨q, 0, none⟩) (hk.block q (HX.out q xq) (.inr xq))).trans HQ.out
  have n4 := hb.notes.c4 i hi
  have fz := hb.notes.fz (i * 5 + 4)
  have HB := Lib.hid hb
  have HK := Lib.hid hk
  clear hb hk
  cases hst : (T i == t) with
  | true =>
    have hm : met.contains (i : Int) = true := by rw [List.contains_iff_mem]; exact (HB.out.stamp i hi).2.1 (by simpa using hst)
    go_wp2_with fail
    go_quiet (fail)
    go_wp2_with fail
    go_returns
    exact ⟨by rw [hm]; rfl, .inr ⟨N, _, _, _, _, (HB.out.drew nq).stamped hi⟩, (HK.out.drew nq).trans (Kp.set _ _ HB.out.loN HB.out.xN)⟩
  | false =>
    have hm : met.contains (i : Int) = false := by
      cases hc : met.contains (i : Int) with
      | false => rfl
      | true =>
        rw [List.contains_iff_mem] at hc
        have := (HB.out.stamp i hi).2.2 hc
        rw [this] at hst
        simp at hst
    go_wp2_with fail
    go_quiet (fail)
    go_wp2_with fail
    go_returns
    exact ⟨by rw [hm]; rfl, .inr ⟨N, _, _, _, _, (HB.out.drew nq).stamped hi⟩, (HK.out.drew nq).trans (Kp.set _ _ HB.out.loN HB.out.xN)⟩
end

end Go.Proofs.Ytnjfbcoddbeggaa
