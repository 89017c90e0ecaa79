/-
  The lines of scans that awake reads.
-/
import Derived.Test.YtjbagjmjbfiddaaGreatDoorLines
namespace Go.Proofs.YtjbagjmjbfiddaaGreatDoor
open Go.ChangeShapes Go.WideShapes Go.ChangeAt Go.RowKit

theorem info3 : (Tryz.prog.info? 3).map (fun i => (i.zero, i.size, i.bytes)) = some (some (.int .i64 0), 1, 8) := by kernel_rfl
/-- 'scan 2 -5 7' -/
abbrev line1 : ByteArray := ⟨#[115, 99, 97, 110, 32, 50, 32, 45, 53, 32, 55]⟩
theorem count1 : Lib.countB line1 ⟨#[32]⟩ = 3 := by kernel_rfl
theorem words1 : ((Lib.splitB ⟨#[32]⟩ 0 3 line1).map Value.string).toArray = #[.string ⟨#[115, 99, 97, 110]⟩, .string ⟨#[50]⟩, .string ⟨#[45, 53]⟩, .string ⟨#[55]⟩] := by kernel_rfl

/-- scan's own blocks: the result, the words, the scan so far -/
structure Sc (w W : World) (A : Nat) (ws : Array Value) (v : Value) (t : Int) : Prop where
  res : W.heap[A]? = some (.cells #[.slice none 0 0, .int .i64 0] 45 (0, 0))
  words : W.heap[A + 1]? = some (.cells ws 9 (0, 0))
  box : W.heap[A + 1 + 1]? = some (.cells #[v, .int .i64 t] 45 (0, 0))
  below : Below A w W
  size : A + 3 ≤ W.heap.size
theorem Sc.to {w W W' : World} {A : Nat} {ws : Array Value} {v : Value} {t : Int} (h : Sc w W A ws v t) (hb : Below (A + 3) W W') : Sc w W' A ws v t :=
  ⟨(hb.block _ (by omega)).trans h.res, (hb.block _ (by omega)).trans h.words, (hb.block _ (by omega)).trans h.box, h.below.trans (hb.mono (by omega)), Nat.le_trans h.size hb.size⟩
theorem Sc.cells {w W : World} {A : Nat} {ws : Array Value} {v : Value} {t : Int} (h : Sc w W A ws v t) :
    (∀ j, W.cell? ⟨A + 1, j, none⟩ = ws[j]?) ∧ W.cell? ⟨A + 1 + 1, 0, none⟩ = some v ∧ W.cell? ⟨A + 1 + 1, 1, none⟩ = some (.int .i64 t) ∧ W.frozen? ⟨A + 1 + 1, 0, none⟩ = false ∧ W.frozen? ⟨A + 1 + 1, 1, none⟩ = false
      ∧ W.cell? ⟨A, 0, none⟩ = some (.slice none 0 0) ∧ W.cell? ⟨A, 1, none⟩ = some (.int .i64 0) ∧ W.frozen? ⟨A, 0, none⟩ = false ∧ W.frozen? ⟨A, 1, none⟩ = false := by
  refine ⟨fun j => by rw [Lib.cell_of_heap h.words], by rw [Lib.cell_of_heap h.box]; rfl, by rw [Lib.cell_of_heap h.box]; rfl, Lib.frozen_of_heap h.box 0, Lib.frozen_of_heap h.box 1, by rw [Lib.cell_of_heap h.res]; rfl, by rw [Lib.cell_of_heap h.res]; rfl, Lib.frozen_of_heap h.res 0, Lib.frozen_of_heap h.res 1⟩
theorem cells_set0 {w : World} {b : Nat} {x y : Value} {t : TypeId} {v : Value} (h : w.heap[b]? = some (.cells #[x, y] t (0, 0))) : (w.setCell ⟨b, 0, none⟩ v).heap[b]? = some (.cells #[v, y] t (0, 0)) := by
  simp [World.setCell, Array.getElem?_modify, h]
theorem Sc.ticks {w W : World} {A : Nat} {ws : Array Value} {v : Value} {t : Int} (h : Sc w W A ws v t) (t' : Int) : Sc w (W.setCell ⟨A + 1 + 1, 1, none⟩ (.int .i64 t')) A ws v t' :=
  ⟨(setCell_other W _ 1 _ A (by omega)).trans h.res, (setCell_other W _ 1 _ (A + 1) (by omega)).trans h.words, cells_set1 h.box, h.below.setCell (p := ⟨A + 1 + 1, 1, none⟩) (by simp; omega) _, by simpa [World.setCell] using h.size⟩
theorem Sc.put {w W : World} {A : Nat} {ws : Array Value} {v : Value} {t : Int} (h : Sc w W A ws v t) (v' : Value) : Sc w (W.setCell ⟨A + 1 + 1, 0, none⟩ v') A ws v' t :=
  ⟨(setCell_other W _ 0 _ A (by omega)).trans h.res, (setCell_other W _ 0 _ (A + 1) (by omega)).trans h.words, cells_set0 h.box, h.below.setCell (p := ⟨A + 1 + 1, 0, none⟩) (by simp; omega) _, by simpa [World.setCell] using h.size⟩
theorem own_form {w : World} {base : Nat} {e : TypeId} {size : Nat} {v : Value} {n : Nat} {xs : List Value} (h : w.ownsRow base e size v n xs) (h0 : 0 < n) : ∃ g c, v = .slice (some ⟨g, 0, none⟩) n c ∧ base ≤ g := by
  rcases h.2 with ⟨_, h1⟩ | ⟨g, c, _, hv, hb, _⟩
  · omega
  · exact ⟨g, c, hv, hb⟩
theorem own_mono {w : World} {base base' : Nat} {e : TypeId} {size : Nat} {v : Value} {n : Nat} {xs : List Value} (h : w.ownsRow base e size v n xs) (hb : base' ≤ base) : w.ownsRow base' e size v n xs := by
  refine ⟨h.1, ?_⟩
  rcases h.2 with h1 | ⟨g, c, cur, hv, hg, hr⟩
  · exact .inl h1
  · exact .inr ⟨g, c, cur, hv, Nat.le_trans hb hg, hr⟩
theorem own_keep {w w' : World} {base : Nat} {e : TypeId} {size : Nat} {v : Value} {n : Nat} {xs : List Value} (h : w.ownsRow base e size v n xs) (hk : ∀ k, k < w.heap.size → base ≤ k → v.ownBlock = some k → w'.heap[k]? = w.heap[k]?) : w'.ownsRow base e size v n xs := by
  refine ⟨h.1, ?_⟩
  rcases h.2 with h1 | ⟨g, c, cur, hv, hb, hg, hr⟩
  · exact .inl h1
  · exact .inr ⟨g, c, cur, hv, hb, (hk g (heap_lt hg) hb (by rw [hv]; simp [Value.ownBlock])).trans hg, hr⟩
theorem Sc.start (w : World) (ws : Array Value) : Sc w (((w.alloc (.cells #[.slice none 0 0, .int .i64 0] 45)).alloc (.cells ws 9)).alloc (.cells #[.slice none 0 0, .int .i64 0] 45)) w.heap.size ws (.slice none 0 0) 0 := by
  refine ⟨?_, ?_, ?_, ?_, by simp⟩
  · rw [Lib.alloc_old _ _ _ (by simp; omega), Lib.alloc_old _ _ _ (by simp)]; exact heap_alloc_new w _
  · rw [Lib.alloc_old _ _ _ (by simp)]
    have := heap_alloc_new (w.alloc (.cells #[.slice none 0 0, .int .i64 0] 45)) (.cells ws 9)
    simpa using this
  · have := heap_alloc_new ((w.alloc (.cells #[.slice none 0 0, .int .i64 0] 45)).alloc (.cells ws 9)) (.cells #[.slice none 0 0, .int .i64 0] 45)
    simpa using this
  · exact (((Below.refl _ w).alloc (Nat.le_refl _) _).alloc (by simp) _).alloc (by simp; omega) _

set_option maxHeartbeats 1000000 in
set_option maxRecDepth 100000 in
theorem scan_one (w : World) (hE : Env w) : Calls Tryz.prog 26 #[.string line1] w fun e w' => ∃ r c, e = .returned (.tuple #[.agg #[.slice (some ⟨r, 0, none⟩) 2 c, .int .i64 2], .bool true]) ∧ w'.ownsRow w.heap.size 3 1 (.slice (some ⟨r, 0, none⟩) 2 c) 2 [.int .i64 (-5), .int .i64 7] ∧ Below w.heap.size w w' := by
  obtain ⟨i00, hi, hz0, hz1, hz2⟩ := info_parts info3
  obtain ⟨m, hm⟩ := hE.most
  have h9 := hE.size
  have hm2 : (w.alloc (.cells #[.slice none 0 0, .int .i64 0] 45)).cell? ⟨1, 0, none⟩ = some (.int .i64 m) := by rw [World.cell?_alloc_lt _ _ ⟨1, 0, none⟩ (by simp; omega)]; exact hm
  have hs := Tryz.strings_Split line1 ⟨#[32]⟩ m _ (by decide) hm2 (by decide)
  rw [count1, words1] at hs
  have HE := Lib.hid hE
  clear hE
  go_enter Tryz.func26, Tryz.ntmps26
  go_wp2_with (go_at_call 40; refine hs.mono ?_; rintro e w' ⟨rfl, rfl⟩)
  have hS := Sc.start w #[.string ⟨#[115, 99, 97, 110]⟩, .string ⟨#[50]⟩, .string ⟨#[45, 53]⟩, .string ⟨#[55]⟩]
  generalize (((w.alloc (.cells #[.slice none 0 0, .int .i64 0] 45)).alloc (.cells #[.string ⟨#[115, 99, 97, 110]⟩, .string ⟨#[50]⟩, .string ⟨#[45, 53]⟩, .string ⟨#[55]⟩] 9)).alloc (.cells #[.slice none 0 0, .int .i64 0] 45)) = W0 at *
  clear hs hm2 hm
  generalize hA : w.heap.size = A at *
  have HS := Lib.hid hS
  obtain ⟨cw, c0, c1, f0, f1, -⟩ := hS.cells
  have w1 := cw 1
  clear hS cw
  refine wp_loop_rounds 4 ?_
  rw [rounds_succ]
  go_wp2_with (go_at_call 41; refine (number_ok ⟨#[50]⟩ 2 (by decide) (by kernel_rfl) (by decide) (by decide) (by kernel_rfl) W0 (HE.out.keep HS.out.below h9)).mono ?_)
  rintro e W1 ⟨rfl, hb1⟩
  have hS1 := HS.out.to (hb1.mono HS.out.size)
  clear hb1 w1 c0 c1 f0 f1
  have HS1 := Lib.hid hS1
  obtain ⟨cw, c0, c1, f0, f1, -⟩ := hS1.cells
  have w2 := cw 2
  clear hS1 cw
  go_wp2_with fail
  have hT := HS1.out.ticks 2
  generalize W1.setCell ⟨A + 1 + 1, 1, none⟩ (.int .i64 2) = W2 at *
  clear c0 c1 f0 f1 w2
  have HT := Lib.hid hT
  obtain ⟨cw, c0, c1, f0, f1, -⟩ := hT.cells
  have w2 := cw 2
  clear hT cw
  rw [rounds_succ]
  go_wp2_with (go_at_call 41; refine (number_ok ⟨#[45, 53]⟩ (-5) (by decide) (by kernel_rfl) (by decide) (by decide) (by kernel_rfl) W2 (HE.out.keep HT.out.below h9)).mono ?_)
  rintro e W3 ⟨rfl, hb3⟩
  have hS3 := HT.out.to (hb3.mono HT.out.size)
  clear hb3 w2 c0 c1 f0 f1
  have HS3 := Lib.hid hS3
  obtain ⟨cw, c0, c1, f0, f1, -⟩ := hS3.cells
  clear hS3 cw
  go_wp2_with (at_builtin; refine wpList_append_own _ rfl (.tmp 48) (.tmp 50) 43 rfl (A + 3) 3 i00 (.int .i64 0) 1 8 Tryz.underlying43 hi hz0 hz1 hz2 rfl (by decide) (.slice none 0 0) 0 [] rfl (World.ownsRow_nil _ _ _ _) ⟨W3.heap.size, 0, none⟩ 1 1 [.int .i64 (-5)] rfl rfl ?c1 ?c2 ?c3 ?c4 ?c5 ?_)
  case c1 =>
    intro j u hj
    match j, hj with
    | 0, hj => simp at hj; subst hj; exact cell_last
  case c2 => intro u hu; simp at hu; subst hu; rfl
  case c3 => unfold maxLen; omega
  case c4 => omega
  case c5 => have := HS3.out.size; simp; omega
  intro v1 W4 hown1 hgrow1 _
  obtain ⟨r1, k1, rfl, hr1⟩ := own_form hown1 (by decide)
  have hS4 : Sc w W4 A #[.string ⟨#[115, 99, 97, 110]⟩, .string ⟨#[50]⟩, .string ⟨#[45, 53]⟩, .string ⟨#[55]⟩] (.slice none 0 0) 2 := HS3.out.to (((Below.refl (A + 3) W3).alloc HS3.out.size _).grown hgrow1 (by have := HS3.out.size; simp; omega) (fun k hk => by cases hk))
  clear hgrow1 c0 c1 f0 f1
  have HS4 := Lib.hid hS4
  obtain ⟨cw, c0, c1, f0, f1, -⟩ := hS4.cells
  clear hS4 cw
  have HO1 := Lib.hid hown1
  clear hown1
  go_wp2_with fail
  have hT5 := HS4.out.put (.slice (some ⟨r1, 0, none⟩) (0 + 1) k1)
  have hO5 : (W4.setCell ⟨A + 1 + 1, 0, none⟩ (.slice (some ⟨r1, 0, none⟩) (0 + 1) k1)).ownsRow (A + 3) 3 1 (.slice (some ⟨r1, 0, none⟩) (0 + 1) k1) (0 + 1) [.int .i64 (-5)] := own_keep HO1.out (fun k _ hk _ => setCell_other _ _ _ _ _ (by omega))
  generalize W4.setCell ⟨A + 1 + 1, 0, none⟩ (.slice (some ⟨r1, 0, none⟩) (0 + 1) k1) = W5 at *
  clear c0 c1 f0 f1
  have HT5 := Lib.hid hT5
  have HO5 := Lib.hid hO5
  obtain ⟨cw, c0, c1, f0, f1, -⟩ := hT5.cells
  have w3 := cw 3
  clear hT5 hO5 cw
  rw [rounds_succ]
  go_wp2_with (go_at_call 41; refine (number_ok ⟨#[55]⟩ 7 (by decide) (by kernel_rfl) (by decide) (by decide) (by kernel_rfl) W5 (HE.out.keep HT5.out.below h9)).mono ?_)
  rintro e W6 ⟨rfl, hb6⟩
  have hS6 := HT5.out.to (hb6.mono HT5.out.size)
  have hO6 := own_keep (w' := W6) HO5.out (fun k hk _ _ => hb6.block k hk)
  clear hb6 w3 c0 c1 f0 f1
  have HS6 := Lib.hid hS6
  have HO6 := Lib.hid hO6
  obtain ⟨cw, c0, c1, f0, f1, -⟩ := hS6.cells
  clear hS6 hO6 cw
  go_wp2_with (at_builtin; refine wpList_append_own _ rfl (.tmp 48) (.tmp 50) 43 rfl (A + 3) 3 i00 (.int .i64 0) 1 8 Tryz.underlying43 hi hz0 hz1 hz2 rfl (by decide) (.slice (some ⟨r1, 0, none⟩) 1 k1) 1 [.int .i64 (-5)] rfl (HO6.out.alloc _) ⟨W6.heap.size, 0, none⟩ 1 1 [.int .i64 7] rfl rfl ?c1 ?c2 ?c3 ?c4 ?c5 ?_)
  case c1 =>
    intro j u hj
    match j, hj with
    | 0, hj => simp at hj; subst hj; exact cell_last
  case c2 => intro u hu; simp at hu; subst hu; rfl
  case c3 => unfold maxLen; omega
  case c4 => omega
  case c5 => have := HS6.out.size; simp; omega
  intro v2 W7 hown2 hgrow2 _
  obtain ⟨r2, k2, rfl, hr2⟩ := own_form hown2 (by decide)
  have hS7 : Sc w W7 A #[.string ⟨#[115, 99, 97, 110]⟩, .string ⟨#[50]⟩, .string ⟨#[45, 53]⟩, .string ⟨#[55]⟩] (.slice (some ⟨r1, 0, none⟩) 1 k1) 2 := HS6.out.to (((Below.refl (A + 3) W6).alloc HS6.out.size _).grown hgrow2 (by have := HS6.out.size; simp; omega) (fun k hk => by simp [Value.ownBlock] at hk; omega))
  clear hgrow2 c0 c1 f0 f1
  have HS7 := Lib.hid hS7
  obtain ⟨cw, c0, c1, f0, f1, -⟩ := hS7.cells
  clear hS7 cw
  have HO7 := Lib.hid hown2
  clear hown2
  go_wp2_with fail
  have hT8 := HS7.out.put (.slice (some ⟨r2, 0, none⟩) (1 + 1) k2)
  have hO8 : (W7.setCell ⟨A + 1 + 1, 0, none⟩ (.slice (some ⟨r2, 0, none⟩) (1 + 1) k2)).ownsRow (A + 3) 3 1 (.slice (some ⟨r2, 0, none⟩) (1 + 1) k2) (1 + 1) [.int .i64 (-5), .int .i64 7] := own_keep HO7.out (fun k _ hk _ => setCell_other _ _ _ _ _ (by omega))
  have hs01 : (0 + 1 : Nat) = 1 := rfl
  generalize W7.setCell ⟨A + 1 + 1, 0, none⟩ (.slice (some ⟨r2, 0, none⟩) (1 + 1) k2) = W8 at *
  clear c0 c1 f0 f1
  have HT8 := Lib.hid hT8
  have HO8 := Lib.hid hO8
  obtain ⟨-, c0, c1, f0, f1, a0, a1, g0, g1⟩ := hT8.cells
  clear hT8 hO8
  rw [rounds_succ]
  go_wp2_with fail
  have hres := HT8.out.res
  have hr0 := cells_set0 (v := .slice (some ⟨r2, 0, none⟩) 2 k2) hres
  have hr1' := cells_set1 (v := .int .i64 2) hr0
  have hO9 : ((W8.setCell ⟨A, 0, none⟩ (.slice (some ⟨r2, 0, none⟩) 2 k2)).setCell ⟨A, 1, none⟩ (.int .i64 2)).ownsRow (A + 3) 3 1 (.slice (some ⟨r2, 0, none⟩) 2 k2) 2 [.int .i64 (-5), .int .i64 7] :=
    own_keep HO8.out (fun k _ hk _ => (setCell_other _ _ _ _ _ (by omega)).trans (setCell_other _ _ _ _ _ (by omega)))
  have hB9 : Below A w ((W8.setCell ⟨A, 0, none⟩ (.slice (some ⟨r2, 0, none⟩) 2 k2)).setCell ⟨A, 1, none⟩ (.int .i64 2)) := (HT8.out.below.setCell (p := ⟨A, 0, none⟩) (Nat.le_refl _) _).setCell (p := ⟨A, 1, none⟩) (Nat.le_refl _) _
  generalize ((W8.setCell ⟨A, 0, none⟩ (.slice (some ⟨r2, 0, none⟩) 2 k2)).setCell ⟨A, 1, none⟩ (.int .i64 2)) = W9 at *
  clear c0 c1 f0 f1 a0 a1 g0 g1 hr0 hres
  have a0 : W9.cell? ⟨A, 0, none⟩ = some (.slice (some ⟨r2, 0, none⟩) 2 k2) := by rw [Lib.cell_of_heap hr1']; rfl
  have a1 : W9.cell? ⟨A, 1, none⟩ = some (.int .i64 2) := by rw [Lib.cell_of_heap hr1']; rfl
  refine bodyPost_ret (by simp [results, Tryz.results26, go_sem, a0, a1]; try rfl) rfl ?_
  exact ⟨r2
, k2, rfl, own_mono hO9 (by omega), hB9⟩

/-- 'scan 02' -/
abbrev line2 : ByteArray := ⟨#[115, 99, 97, 110, 32, 48, 50]⟩
theorem count2 : Lib.countB line2 ⟨#[32]⟩ = 1 := by kernel_rfl
theorem words2 : ((Lib.splitB ⟨#[32]⟩ 0 1 line2).map Value.string).toArray = #[.string ⟨#[115, 99, 97, 110]⟩, .string ⟨#[48, 50]⟩] := by kernel_rfl

set_option maxHeartbeats 1000000 in
set_option maxRecDepth 100000 in
theorem scan_two (w : World) (hE : Env w) : Calls Tryz.prog 26 #[.string line2] w fun e w' => e = .returned (.tuple #[.agg #[.slice none 0 0, .int .i64 0], .bool false]) ∧ Below w.heap.size w w' := by
  obtain ⟨m, hm⟩ := hE.most
  have h9 := hE.size
  have hm2 : (w.alloc (.cells #[.slice none 0 0, .int .i64 0] 45)).cell? ⟨1, 0, none⟩ = some (.int .i64 m) := by rw [World.cell?_alloc_lt _ _ ⟨1, 0, none⟩ (by simp; omega)]; exact hm
  have hs := Tryz.strings_Split line2 ⟨#[32]⟩ m _ (by decide) hm2 (by decide)
  rw [count2, words2] at hs
  have HE := Lib.hid hE
  clear hE
  go_enter Tryz.func26, Tryz.ntmps26
  go_wp2_with (go_at_call 40; refine hs.mono ?_; rintro e w' ⟨rfl, rfl⟩)
  have hS := Sc.start w #[.string ⟨#[115, 99, 97, 110]⟩, .string ⟨#[48, 50]⟩]
  generalize (((w.alloc (.cells #[.slice none 0 0, .int .i64 0] 45)).alloc (.cells #[.string ⟨#[115, 99, 97, 110]⟩, .string ⟨#[48, 50]⟩] 9)).alloc (.cells #[.slice none 0 0, .int .i64 0] 45)) = W0 at *
  clear hs hm2 hm
  generalize hA : w.heap.size = A at *
  have HS := Lib.hid hS
  obtain ⟨cw, c0, c1, f0, f1, -⟩ := hS.cells
  have w1 := cw 1
  clear hS cw
  refine wp_loop_rounds 2 ?_
  rw [rounds_succ]
  go_wp2_with (go_at_call 41; refine (number_no ⟨#[48, 50]⟩ 2 (by decide) (by kernel_rfl) (by decide) (by decide) (by kernel_rfl) W0 (HE.out.keep HS.out.below h9)).mono ?_)
  rintro e W1 ⟨rfl, hb1⟩
  have hS1 := HS.out.to (hb1.mono HS.out.size)
  clear hb1 w1 c0 c1 f0 f1
  have HS1 := Lib.hid hS1
  obtain ⟨-, c0, c1, f0, f1, a0, a1, g0, g1⟩ := hS1.cells
  clear hS1
  go_wp2_with fail
  have hres := HS1.out.res
  have hr0 := cells_set0 (v := .slice none 0 0) hres
  have hr1' := cells_set1 (v := .int .i64 0) hr0
  have hB9 : Below A w ((W1.setCell ⟨A, 0, none⟩ (.slice none 0 0)).setCell ⟨A, 1, none⟩ (.int .i64 0)) := (HS1.out.below.setCell (p := ⟨A, 0, none⟩) (Nat.le_refl _) _).setCell (p := ⟨A, 1, none⟩) (Nat.le_refl _) _
  generalize ((W1.setCell ⟨A, 0, none⟩ (.slice none 0 0)).setCell ⟨A, 1, none⟩ (.int .i64 0)) = W9 at *
  clear c0 c1 f0 f1 a0 a1 g0 g1 hr0 hres
  have a0 : W9.cell? ⟨A, 0, none⟩ = some (.slice none 0 0) := by rw [Lib.cell_of_heap hr1']; rfl
  have a1 : W9.cell? ⟨A, 1, none⟩ = some (.int .i64 0) := by rw [Lib.cell_of_heap hr1']; rfl
  refine bodyPost_ret (by simp [results, Tryz.results26, go_sem, a0, a1]; try rfl) rfl ?_
  exact ⟨rfl, by rw [hA]; exact hB9⟩
end Go.Proofs.YtjbagjmjbfiddaaGreatDoor
