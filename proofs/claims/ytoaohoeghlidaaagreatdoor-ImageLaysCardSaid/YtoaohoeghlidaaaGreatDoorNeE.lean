/-
  What is not one answers so: images but their codes.
-/
import Derived.Test.YtoaohoeghlidaaaGreatDoorNeD
import Derived.Test.YtoaohoeghlidaaaGreatDoorUpto
namespace Go.Proofs.YtoaohoeghlidaaaGreatDoor
open Go.ChangeShapes Go.WideShapes Go.ChangeAt Go.RowKit

set_option maxHeartbeats 6400000 in
set_option maxRecDepth 100000 in
theorem eq_tabs (lim : Nat) (W : World) (vs us : List Value) (x : ImgD) (cds : List CodeD) (d9' w9' : Int) (hcl : x.codes.length = cds.length) (h1 : shImg.Is (fun k => k < lim) W vs x) (h2 : shImg.Is (fun k => k < lim) W us ⟨x.faces, x.classes, cds, x.insts, x.globals, x.init, x.blocks, x.ins, x.outs, x.jobs, d9', w9'⟩) (hl : lim ≤ W.heap.size) : Calls Tryz.prog 42 #[mkA vs, mkA us] W fun e W' => e = .returned (.bool true) ∧ Below W.heap.size W W' := by
  obtain ⟨a0, l0, c0, a1, l1, c1, a2, l2, c2, a3, l3, c3, a5, l5, c5, a6, l6, c6, a7, l7, c7, a8, l8, c8, a9, l9, c9, rfl, f0, f1, f2, f3, f5, f6, f7, f8, f9⟩ := img_is.1 h1
  obtain ⟨p0, q0, r0, p1, q1, r1, p2, q2, r2, p3, q3, r3, p5, q5, r5, p6, q6, r6, p7, q7, r7, p8, q8, r8, p9, q9, r9, rfl, g0, g1, g2, g3, g5, g6, g7, g8, g9⟩ := img_is.1 h2
  dsimp only at g0 g1 g2 g3 g5 g6 g7 g8 g9
  obtain rfl : l0 = q0 := f0.1.symm.trans g0.1
  obtain rfl : l1 = q1 := f1.1.symm.trans g1.1
  obtain rfl : l2 = q2 := (f2.1.symm.trans hcl).trans g2.1
  obtain rfl : l9 = q9 := f9.1.symm.trans g9.1
  have hbx : ((W.alloc (.cells #[.slice a0 l0 c0, .slice a1 l1 c1, .slice a2 l2 c2, .slice a3 l3 c3, .string x.globals, .slice a5 l5 c5, .slice a6 l6 c6, .slice a7 l7 c7, .slice a8 l8 c8, .slice a9 l9 c9, .int .i64 x.d, .int .i64 x.w] 29)).alloc (.cells #[.slice p0 l0 r0, .slice p1 l1 r1, .slice p2 l2 r2, .slice p3 q3 r3, .string x.globals, .slice p5 q5 r5, .slice p6 q6 r6, .slice p7 q7 r7, .slice p8 q8 r8, .slice p9 l9 r9, .int .i64 d9', .int .i64 w9'] 29)).heap[W.heap.size]? = some (.cells #[.slice a0 l0 c0, .slice a1 l1 c1, .slice a2 l2 c2, .slice a3 l3 c3, .string x.globals, .slice a5 l5 c5, .slice a6 l6 c6, .slice a7 l7 c7, .slice a8 l8 c8, .slice a9 l9 c9, .int .i64 x.d, .int .i64 x.w] 29 (0, 0)) := (Below.heap_alloc _ _ _ (by simp)).trans (heap_alloc_new W _)
  have hby : ((W.alloc (.cells #[.slice a0 l0 c0, .slice a1 l1 c1, .slice a2 l2 c2, .slice a3 l3 c3, .string x.globals, .slice a5 l5 c5, .slice a6 l6 c6, .slice a7 l7 c7, .slice a8 l8 c8, .slice a9 l9 c9, .int .i64 x.d, .int .i64 x.w] 29)).alloc (.cells #[.slice p0 l0 r0, .slice p1 l1 r1, .slice p2 l2 r2, .slice p3 q3 r3, .string x.globals, .slice p5 q5 r5, .slice p6 q6 r6, .slice p7 q7 r7, .slice p8 q8 r8, .slice p9 l9 r9, .int .i64 d9', .int .i64 w9'] 29)).heap[W.heap.size + 1]? = some (.cells #[.slice p0 l0 r0, .slice p1 l1 r1, .slice p2 l2 r2, .slice p3 q3 r3, .string x.globals, .slice p5 q5 r5, .slice p6 q6 r6, .slice p7 q7 r7, .slice p8 q8 r8, .slice p9 l9 r9, .int .i64 d9', .int .i64 w9'] 29 (0, 0)) := by
    have := heap_alloc_new (W.alloc (.cells #[.slice a0 l0 c0, .slice a1 l1 c1, .slice a2 l2 c2, .slice a3 l3 c3, .string x.globals, .slice a5 l5 c5, .slice a6 l6 c6, .slice a7 l7 c7, .slice a8 l8 c8, .slice a9 l9 c9, .int .i64 x.d, .int .i64 x.w] 29)) (.cells #[.slice p0 l0 r0, .slice p1 l1 r1, .slice p2 l2 r2, .slice p3 q3 r3, .string x.globals, .slice p5 q5 r5, .slice p6 q6 r6, .slice p7 q7 r7, .slice p8 q8 r8, .slice p9 l9 r9, .int .i64 d9', .int .i64 w9'] 29)
    rw [show (W.alloc (.cells #[.slice a0 l0 c0, .slice a1 l1 c1, .slice a2 l2 c2, .slice a3 l3 c3, .string x.globals, .slice a5 l5 c5, .slice a6 l6 c6, .slice a7 l7 c7, .slice a8 l8 c8, .slice a9 l9 c9, .int .i64 x.d, .int .i64 x.w] 29)).heap.size = W.heap.size + 1 by simp] at this
    exact this
  have HB0 := Lib.hid (((Below.refl W.heap.size W).alloc (Nat.le_refl _) (.cells #[.slice a0 l0 c0, .slice a1 l1 c1, .slice a2 l2 c2, .slice a3 l3 c3, .string x.globals, .slice a5 l5 c5, .slice a6 l6 c6, .slice a7 l7 c7, .slice a8 l8 c8, .slice a9 l9 c9, .int .i64 x.d, .int .i64 x.w] 29)).alloc (by simp) (.cells #[.slice p0 l0 r0, .slice p1 l1 r1, .slice p2 l2 r2, .slice p3 q3 r3, .string x.globals, .slice p5 q5 r5, .slice p6 q6 r6, .slice p7 q7 r7, .slice p8 q8 r8, .slice p9 l9 r9, .int .i64 d9', .int .i64 w9'] 29))
  have HX0 := Lib.hid hbx
  have HY0 := Lib.hid hby
  have HL := Lib.hid hl
  have hm0 : l0 ≤ 9223372036854775807 := by have := f0.le; unfold maxLen at this; omega
  have hn0 : ((l0 : Int) != (l0 : Int)) = false := by simp
  have hm1 : l1 ≤ 9223372036854775807 := by have := f1.le; unfold maxLen at this; omega
  have hn1 : ((l1 : Int) != (l1 : Int)) = false := by simp
  have hm2 : l2 ≤ 9223372036854775807 := by have := f2.le; unfold maxLen at this; omega
  have hn2 : ((l2 : Int) != (l2 : Int)) = false := by simp
  have hm9 : l9 ≤ 9223372036854775807 := by have := f9.le; unfold maxLen at this; omega
  have hn9 : ((l9 : Int) != (l9 : Int)) = false := by simp
  have F0 := Lib.hid f0
  have G0 := Lib.hid g0
  have F1 := Lib.hid f1
  have G1 := Lib.hid g1
  have F2 := Lib.hid f2
  have G2 := Lib.hid g2
  have F3 := Lib.hid f3
  have G3 := Lib.hid g3
  have F5 := Lib.hid f5
  have G5 := Lib.hid g5
  have F6 := Lib.hid f6
  have G6 := Lib.hid g6
  have F7 := Lib.hid f7
  have G7 := Lib.hid g7
  have F8 := Lib.hid f8
  have G8 := Lib.hid g8
  have F9 := Lib.hid f9
  have G9 := Lib.hid g9
  clear h1 h2 hl hbx hby f0 g0 f1 g1 f2 g2 f3 g3 f5 g5 f6 g6 f7 g7 f8 g8 f9 g9
  show Calls Tryz.prog 42 #[.agg #[.slice a0 l0 c0, .slice a1 l1 c1, .slice a2 l2 c2, .slice a3 l3 c3, .string x.globals, .slice a5 l5 c5, .slice a6 l6 c6, .slice a7 l7 c7, .slice a8 l8 c8, .slice a9 l9 c9, .int .i64 x.d, .int .i64 x.w], .agg #[.slice p0 l0 r0, .slice p1 l1 r1, .slice p2 l2 r2, .slice p3 q3 r3, .string x.globals, .slice p5 q5 r5, .slice p6 q6 r6, .slice p7 q7 r7, .slice p8 q8 r8, .slice p9 l9 r9, .int .i64 d9', .int .i64 w9']] W _
  go_enter Tryz.func42, Tryz.ntmps42
  go_wp2_with (go_at_call 73; refine (eq_ints lim _ _ _ x.insts ⟨a3, l3, c3, rfl, row_lim F3.out (HB0.out.mono HL.out)⟩ ⟨p3, q3, r3, rfl, row_lim G3.out (HB0.out.mono HL.out)⟩).mono ?_)
  rintro e W1 ⟨rfl, m1, hW1⟩
  have HX1 := Lib.hid (show W1.heap[W.heap.size]? = some (.cells #[.slice a0 l0 c0, .slice a1 l1 c1, .slice a2 l2 c2, .slice a3 l3 c3, .string x.globals, .slice a5 l5 c5, .slice a6 l6 c6, .slice a7 l7 c7, .slice a8 l8 c8, .slice a9 l9 c9, .int .i64 x.d, .int .i64 x.w] 29 (0, 0)) by rw [hW1]; exact HX0.out)
  have HY1 := Lib.hid (show W1.heap[W.heap.size + 1]? = some (.cells #[.slice p0 l0 r0, .slice p1 l1 r1, .slice p2 l2 r2, .slice p3 q3 r3, .string x.globals, .slice p5 q5 r5, .slice p6 q6 r6, .slice p7 q7 r7, .slice p8 q8 r8, .slice p9 l9 r9, .int .i64 d9', .int .i64 w9'] 29 (0, 0)) by rw [hW1]; exact HY0.out)
  have HB1 := Lib.hid (show Below W.heap.size W W1 by rw [hW1]; exact below_drew HB0.out _)
  clear hW1
  have d4 : W1.cell? ⟨W.heap.size, 4, none⟩ = some (.string x.globals) := by rw [Lib.cell_of_heap (HX1.out)]; rfl
  have e4 : W1.cell? ⟨W.heap.size + 1, 4, none⟩ = some (.string x.globals) := by rw [Lib.cell_of_heap (HY1.out)]; rfl
  have d5 : W1.cell? ⟨W.heap.size, 5, none⟩ = some (.slice a5 l5 c5) := by rw [Lib.cell_of_heap (HX1.out)]; rfl
  have e5 : W1.cell? ⟨W.heap.size + 1, 5, none⟩ = some (.slice p5 q5 r5) := by rw [Lib.cell_of_heap (HY1.out)]; rfl
  go_wp2_with (go_at_call 73; refine (eq_ints lim _ _ _ x.init ⟨a5, l5, c5, rfl, row_lim F5.out (HB1.out.mono HL.out)⟩ ⟨p5, q5, r5, rfl, row_lim G5.out (HB1.out.mono HL.out)⟩).mono ?_)
  rintro e W2 ⟨rfl, m2, hW2⟩
  clear d4 e4 d5 e5
  have HX2 := Lib.hid (show W2.heap[W.heap.size]? = some (.cells #[.slice a0 l0 c0, .slice a1 l1 c1, .slice a2 l2 c2, .slice a3 l3 c3, .string x.globals, .slice a5 l5 c5, .slice a6 l6 c6, .slice a7 l7 c7, .slice a8 l8 c8, .slice a9 l9 c9, .int .i64 x.d, .int .i64 x.w] 29 (0, 0)) by rw [hW2]; exact HX1.out)
  have HY2 := Lib.hid (show W2.heap[W.heap.size + 1]? = some (.cells #[.slice p0 l0 r0, .slice p1 l1 r1, .slice p2 l2 r2, .slice p3 q3 r3, .string x.globals, .slice p5 q5 r5, .slice p6 q6 r6, .slice p7 q7 r7, .slice p8 q8 r8, .slice p9 l9 r9, .int .i64 d9', .int .i64 w9'] 29 (0, 0)) by rw [hW2]; exact HY1.out)
  have HB2 := Lib.hid (show Below W.heap.size W W2 by rw [hW2]; exact below_drew HB1.out _)
  clear hW2
  have d6 : W2.cell? ⟨W.heap.size, 6, none⟩ = some (.slice a6 l6 c6) := by rw [Lib.cell_of_heap (HX2.out)]; rfl
  have e6 : W2.cell? ⟨W.heap.size + 1, 6, none⟩ = some (.slice p6 q6 r6) := by rw [Lib.cell_of_heap (HY2.out)]; rfl
  go_wp2_with (go_at_call 73; refine (eq_ints lim _ _ _ x.blocks ⟨a6, l6, c6, rfl, row_lim F6.out (HB2.out.mono HL.out)⟩ ⟨p6, q6, r6, rfl, row_lim G6.out (HB2.out.mono HL.out)⟩).mono ?_)
  rintro e W3 ⟨rfl, m3, hW3⟩
  clear d6 e6
  have HX3 := Lib.hid (show W3.heap[W.heap.size]? = some (.cells #[.slice a0 l0 c0, .slice a1 l1 c1, .slice a2 l2 c2, .slice a3 l3 c3, .string x.globals, .slice a5 l5 c5, .slice a6 l6 c6, .slice a7 l7 c7, .slice a8 l8 c8, .slice a9 l9 c9, .int .i64 x.d, .int .i64 x.w] 29 (0, 0)) by rw [hW3]; exact HX2.out)
  have HY3 := Lib.hid (show W3.heap[W.heap.size + 1]? = some (.cells #[.slice p0 l0 r0, .slice p1 l1 r1, .slice p2 l2 r2, .slice p3 q3 r3, .string x.globals, .slice p5 q5 r5, .slice p6 q6 r6, .slice p7 q7 r7, .slice p8 q8 r8, .slice p9 l9 r9, .int .i64 d9', .int .i64 w9'] 29 (0, 0)) by rw [hW3]; exact HY2.out)
  have HB3 := Lib.hid (show Below W.heap.size W W3 by rw [hW3]; exact below_drew HB2.out _)
  clear hW3
  have d7 : W3.cell? ⟨W.heap.size, 7, none⟩ = some (.slice a7 l7 c7) := by rw [Lib.cell_of_heap (HX3.out)]; rfl
  have e7 : W3.cell? ⟨W.heap.size + 1, 7, none⟩ = some (.slice p7 q7 r7) := by rw [Lib.cell_of_heap (HY3.out)]; rfl
  go_wp2_with (go_at_call 74; refine (eq_links lim _ _ _ x.ins ⟨a7, l7, c7, rfl, row_lim F7.out (HB3.out.mono HL.out)⟩ ⟨p7, q7, r7, rfl, row_lim G7.out (HB3.out.mono HL.out)⟩).mono ?_)
  rintro e W4 ⟨rfl, m4, hW4⟩
  clear d7 e7
  have HX4 := Lib.hid (show W4.heap[W.heap.size]? = some (.cells #[.slice a0 l0 c0, .slice a1 l1 c1, .slice a2 l2 c2, .slice a3 l3 c3, .string x.globals, .slice a5 l5 c5, .slice a6 l6 c6, .slice a7 l7 c7, .slice a8 l8 c8, .slice a9 l9 c9, .int .i64 x.d, .int .i64 x.w] 29 (0, 0)) by rw [hW4]; exact HX3.out)
  have HY4 := Lib.hid (show W4.heap[W.heap.size + 1]? = some (.cells #[.slice p0 l0 r0, .slice p1 l1 r1, .slice p2 l2 r2, .slice p3 q3 r3, .string x.globals, .slice p5 q5 r5, .slice p6 q6 r6, .slice p7 q7 r7, .slice p8 q8 r8, .slice p9 l9 r9, .int .i64 d9', .int .i64 w9'] 29 (0, 0)) by rw [hW4]; exact HY3.out)
  have HB4 := Lib.hid (show Below W.heap.size W W4 by rw [hW4]; exact below_drew HB3.out _)
  clear hW4
  have d8 : W4.cell? ⟨W.heap.size, 8, none⟩ = some (.slice a8 l8 c8) := by rw [Lib.cell_of_heap (HX4.out)]; rfl
  have e8 : W4.cell? ⟨W.heap.size + 1, 8, none⟩ = some (.slice p8 q8 r8) := by rw [Lib.cell_of_heap (HY4.out)]; rfl
  go_wp2_with (go_at_call 74; refine (eq_links lim _ _ _ x.outs ⟨a8, l8, c8, rfl, row_lim F8.out (HB4.out.mono HL.out)⟩ ⟨p8, q8, r8, rfl, row_lim G8.out (HB4.out.mono HL.out)⟩).mono ?_)
  rintro e W5 ⟨rfl, m5, hW5⟩
  clear d8 e8
  have HX5 := Lib.hid (show W5.heap[W.heap.size]? = some (.cells #[.slice a0 l0 c0, .slice a1 l1 c1, .slice a2 l2 c2, .slice a3 l3 c3, .string x.globals, .slice a5 l5 c5, .slice a6 l6 c6, .slice a7 l7 c7, .slice a8 l8 c8, .slice a9 l9 c9, .int .i64 x.d, .int .i64 x.w] 29 (0, 0)) by rw [hW5]; exact HX4.out)
  have HY5 := Lib.hid (show W5.heap[W.heap.size + 1]? = some (.cells #[.slice p0 l0 r0, .slice p1 l1 r1, .slice p2 l2 r2, .slice p3 q3 r3, .string x.globals, .slice p5 q5 r5, .slice p6 q6 r6, .slice p7 q7 r7, .slice p8 q8 r8, .slice p9 l9 r9, .int .i64 d9', .int .i64 w9'] 29 (0, 0)) by rw [hW5]; exact HY4.out)
  have HB5 := Lib.hid (show Below W.heap.size W W5 by rw [hW5]; exact below_drew HB4.out _)
  clear hW5
  have d9 : W5.cell? ⟨W.heap.size, 9, none⟩ = some (.slice a9 l9 c9) := by rw [Lib.cell_of_heap (HX5.out)]; rfl
  have e9 : W5.cell? ⟨W.heap.size + 1, 9, none⟩ = some (.slice p9 l9 r9) := by rw [Lib.cell_of_heap (HY5.out)]; rfl
  have d0 : W5.cell? ⟨W.heap.size, 0, none⟩ = some (.slice a0 l0 c0) := by rw [Lib.cell_of_heap (HX5.out)]; rfl
  have e0 : W5.cell? ⟨W.heap.size + 1, 0, none⟩ = some (.slice p0 l0 r0) := by rw [Lib.cell_of_heap (HY5.out)]; rfl
  go_wp2_with fail
  clear d9 e9
  go_loopw [5] (fun i wr => ∃ k m : Nat, k ≤ l0 ∧ i = .int .i64 k ∧ wr = W5.drewN m) (fun i _ => l0 - (intOf i).toNat)
  case atStart => exact ⟨0, 0, Nat.zero_le _, rfl, rfl⟩
  case round =>
    obtain ⟨k, m, hk, rfl, hwr⟩ := hrel
    have HWR := Lib.hid hwr
    have hB := below_drew HB5.out m
    rw [← hwr] at hB
    have d0 : wr.cell? ⟨W.heap.size, 0, none⟩ = some (.slice a0 l0 c0) := by rw [hwr]; exact d0
    have e0 : wr.cell? ⟨W.heap.size + 1, 0, none⟩ = some (.slice p0 l0 r0) := by rw [hwr]; exact e0
    by_cases hlt : k < l0
    · obtain ⟨ba, oa, t, vs, rfl, _, hx, hba, iA⟩ := (row_lim F0.out (hB.mono HL.out)).item hlt
      obtain ⟨bb, ob, t', us, rfl, _, hx', hbb, iB⟩ := (row_lim G0.out (hB.mono HL.out)).item hlt
      obtain rfl := Option.some.inj (hx.symm.trans hx')
      have i0 : (k : Int) < (l0 : Int) := by omega
      have i1 : (0 : Int) ≤ (k : Int) := by omega
      obtain ⟨u1, v1, w1, rfl, rA⟩ := slice_is.1 iA
      obtain ⟨u2, v2, w2, rfl, rB⟩ := slice_is.1 iB
      have x0 : wr.cell? ⟨ba, oa + k, none⟩ = some (.slice u1 v1 w1) := by have := hba 0 _ rfl; rw [show oa + k * shTexts.n + 0 = oa + k by show oa + k * 1 + 0 = _; omega] at this; exact this
      have y0 : wr.cell? ⟨bb, ob + k, none⟩ = some (.slice u2 v2 w2) := by have := hbb 0 _ rfl; rw [show ob + k * shTexts.n + 0 = ob + k by show ob + k * 1 + 0 = _; omega] at this; exact this
      have hq : ∀ m, Calls Tryz.prog 75 #[.slice u1 v1 w1, .slice u2 v2 w2] (wr.drewN m) fun e W' => e = .returned (.bool true) ∧ ∃ n, W' = wr.drewN n := fun m => eq_texts.quiet (lim := lim) (vs := [.slice u1 v1 w1]) (us := [.slice u2 v2 w2]) ⟨u1, v1, w1, rfl, rA⟩ ⟨u2, v2, w2, rfl, rB⟩ m
      have HQ := Lib.hid hq
      clear hba hbb hx hx' iA iB rA rB hwr hB hq
      go_wp2_with fail
      go_quiet (exact HQ.out _)
      go_wp2_with fail
      refine ⟨⟨k + 1, m + nq, ?_, ?_, ?_⟩, ?_⟩
      · omega
      · go_num
      · rw [HWR.out, World.drewN_drewN]
      · simp [intOf]; omega
    · obtain rfl : l0 = k := by omega
      have HX6 := Lib.hid (show wr.heap[W.heap.size]? = some (.cells #[.slice a0 l0 c0, .slice a1 l1 c1, .slice a2 l2 c2, .slice a3 l3 c3, .string x.globals, .slice a5 l5 c5, .slice a6 l6 c6, .slice a7 l7 c7, .slice a8 l8 c8, .slice a9 l9 c9, .int .i64 x.d, .int .i64 x.w] 29 (0, 0)) by rw [hwr]; exact HX5.out)
      have HY6 := Lib.hid (show wr.heap[W.heap.size + 1]? = some (.cells #[.slice p0 l0 r0, .slice p1 l1 r1, .slice p2 l2 r2, .slice p3 q3 r3, .string x.globals, .slice p5 q5 r5, .slice p6 q6 r6, .slice p7 q7 r7, .slice p8 q8 r8, .slice p9 l9 r9, .int .i64 d9', .int .i64 w9'] 29 (0, 0)) by rw [hwr]; exact HY5.out)
      have HB6 := Lib.hid hB
      clear hwr hB
      go_wp2_with fail
      clear d0 e0
      generalize hV : wr = V at *
      clear HWR hV HX5 HY5 HB5
      go_loopw [6] (fun i wr => ∃ k : Nat, k ≤ l1 ∧ i = .int .i64 k ∧ wr.heap[W.heap.size]? = some (.cells #[.slice a0 l0 c0, .slice a1 l1 c1, .slice a2 l2 c2, .slice a3 l3 c3, .string x.globals, .slice a5 l5 c5, .slice a6 l6 c6, .slice a7 l7 c7, .slice a8 l8 c8, .slice a9 l9 c9, .int .i64 x.d, .int .i64 x.w] 29 (0, 0)) ∧ wr.heap[W.heap.size + 1]? = some (.cells #[.slice p0 l0 r0, .slice p1 l1 r1, .slice p2 l2 r2, .slice p3 q3 r3, .string x.globals, .slice p5 q5 r5, .slice p6 q6 r6, .slice p7 q7 r7, .slice p8 q8 r8, .slice p9 l9 r9, .int .i64 d9', .int .i64 w9'] 29 (0, 0)) ∧ Below W.heap.size W wr) (fun i _ => l1 - (intOf i).toNat)
      case atStart => exact ⟨0, Nat.zero_le _, rfl, HX6.out, HY6.out, HB6.out⟩
      case round =>
        clear HX6 HY6 HB6
        obtain ⟨k, hk, rfl, hX, hY, hB⟩ := hrel
        have d1 : wr.cell? ⟨W.heap.size, 1, none⟩ = some (.slice a1 l1 c1) := by rw [Lib.cell_of_heap (hX)]; rfl
        have e1 : wr.cell? ⟨W.heap.size + 1, 1, none⟩ = some (.slice p1 l1 r1) := by rw [Lib.cell_of_heap (hY)]; rfl
        have HX := Lib.hid hX
        have HY := Lib.hid hY
        have HB := Lib.hid hB
        by_cases hlt : k < l1
        · obtain ⟨ba, oa, t, vs, rfl, _, hx, hba, iA⟩ := (row_lim F1.out (hB.mono HL.out)).item hlt
          obtain ⟨bb, ob, t', us, rfl, _, hx', hbb, iB⟩ := (row_lim G1.out (hB.mono HL.out)).item hlt
          obtain rfl := Option.some.inj (hx.symm.trans hx')
          have i0 : (k : Int) < (l1 : Int) := by omega
          have i1 : (0 : Int) ≤ (k : Int) := by omega
          have IA := Lib.hid iA
          have IB := Lib.hid iB
          obtain ⟨z2, z3, z4, z5, z6, z7, z8, z9, z10, z11, z12, z13, rfl, -⟩ := desc_is.1 iA
          obtain ⟨y2, y3, y4, y5, y6, y7, y8, y9, y10, y11, y12, y13, rfl, -⟩ := desc_is.1 iB
          have m0 := hba 0 _ rfl
          have m1 := hba 1 _ rfl
          have m2 := hba 2 _ rfl
          have m3 := hba 3 _ rfl
          have m4 := hba 4 _ rfl
          have m5 := hba 5 _ rfl
          have n0 := hbb 0 _ rfl
          have n1 := hbb 1 _ rfl
          have n2 := hbb 2 _ rfl
          have n3 := hbb 3 _ rfl
          have n4 := hbb 4 _ rfl
          have n5 := hbb 5 _ rfl
          rw [show oa + k * shDesc.n + 0 = oa + k * 6 from rfl] at m0
          rw [show ob + k * shDesc.n + 0 = ob + k * 6 from rfl] at n0
          simp only [show shDesc.n = 6 from rfl] at m1 m2 m3 m4 m5 n1 n2 n3 n4 n5
          have hsz := hB.size
          clear hba hbb hx hx' iA iB hX hY hB
          go_wp2_with fail
          refine AnyK.start 10 (fun w' => w' = wr.drew) rfl rfl (fun _ => ?_)
          refine AnyK.take (oi := { dst := _, op := _, type := _, pos := _, after := _, guard := _ }) 0 ?_ rfl (by kernel_rfl) (fun _ _ _ h => h) (Or.inl ⟨by rfl, ?_⟩) rfl ?_
          rotate_left
          · (intro w' hS; subst hS; go_simp; with_reducible rfl)
          simp only [Act.put, List.setIfInBounds_toArray, List.set_cons_zero, List.set_cons_succ]
          refine AnyK.take (oi := { dst := _, op := _, type := _, pos := _, after := _, guard := _ }) 1 ?_ rfl (by kernel_rfl) (fun _ _ _ h => h) (Or.inl ⟨by rfl, ?_⟩) rfl ?_
          rotate_left
          · (intro w' hS; subst hS; go_simp; with_reducible rfl)
          simp only [Act.put, List.setIfInBounds_toArray, List.set_cons_zero, List.set_cons_succ]
          refine AnyK.take (oi := { dst := _, op := _, type := _, pos := _, after := _, guard := _ }) 2 ?_ rfl (by kernel_rfl) (fun _ _ _ h => h) (Or.inl ⟨by rfl, ?_⟩) rfl ?_
          rotate_left
          · (intro w' hS; subst hS; go_simp; with_reducible rfl)
          simp only [Act.put, List.setIfInBounds_toArray, List.set_cons_zero, List.set_cons_succ]
          refine AnyK.take (oi := { dst := _, op := _, type := _, pos := _, after := _, guard := _ }) 3 ?_ rfl (by kernel_rfl) (fun _ _ _ h => h) (Or.inl ⟨by rfl, ?_⟩) rfl ?_
          rotate_left
          · (intro w' hS; subst hS; go_simp; with_reducible rfl)
          simp only [Act.put, List.setIfInBounds_toArray, List.set_cons_zero, List.set_cons_succ]
          refine AnyK.take (oi := { dst := _, op := _, type := _, pos := _, after := _, guard := _ }) 4 ?_ rfl (by kernel_rfl) (fun _ _ _ h => h) (Or.inl ⟨by rfl, ?_⟩) rfl ?_
          rotate_left
          · (intro w' hS; subst hS; go_simp; with_reducible rfl)
          simp only [Act.put, List.setIfInBounds_toArray, List.set_cons_zero, List.set_cons_succ]
          refine AnyK.take (oi := { dst := _, op := _, type := _, pos := _, after := _, guard := _ }) 5 ?_ rfl (by kernel_rfl) (fun _ _ _ h => h) (Or.inl ⟨by rfl, ?_⟩) rfl ?_
          rotate_left
          · (intro w' hS; subst hS; go_simp; with_reducible rfl)
          simp only [Act.put, List.setIfInBounds_toArray, List.set_cons_zero, List.set_cons_succ]
          refine AnyK.take (oi := { dst := _, op := _, type := _, pos := _, after := _, guard := _ }) 6 ?_ rfl (by kernel_rfl) (fun _ _ _ h => h) (Or.inl ⟨by rfl, ?_⟩) rfl ?_
          rotate_left
          · (intro w' hS; subst hS; go_simp; with_reducible rfl)
          simp only [Act.put, List.setIfInBounds_toArray, List.set_cons_zero, List.set_cons_succ]
          refine AnyK.take (oi := { dst := _, op := _, type := _, pos := _, after := _, guard := _ }) 7 ?_ rfl (by kernel_rfl) (fun _ _ _ h => h) (Or.inl ⟨by rfl, ?_⟩) rfl ?_
          rotate_left
          · (intro w' hS; subst hS; go_simp; with_reducible rfl)
          simp only [Act.put, List.setIfInBounds_toArray, List.set_cons_zero, List.set_cons_succ]
          refine AnyK.take (oi := { dst := _, op := _, type := _, pos := _, after := _, guard := _ }) 8 ?_ rfl (by kernel_rfl) (fun _ _ _ h => h) (Or.inl ⟨by rfl, ?_⟩) rfl ?_
          rotate_left
          · (intro w' hS; subst hS; go_simp; with_reducible rfl)
          simp only [Act.put, List.setIfInBounds_toArray, List.set_cons_zero, List.set_cons_succ]
          refine AnyK.take (oi := { dst := _, op := _, type := _, pos := _, after := _, guard := _ }) 9 ?_ rfl (by kernel_rfl) (fun _ _ _ h => h) (Or.inl ⟨by rfl, ?_⟩) rfl ?_
          rotate_left
          · (intro w' hS; subst hS; go_simp; with_reducible rfl)
          simp only [Act.put, List.setIfInBounds_toArray, List.set_cons_zero, List.set_cons_succ]
          refine AnyK.late 10 (by kernel_rfl) (by kernel_rfl) rfl (fun KK hK => ?_)
          go_simp
          refine (eq_desc lim wr.drew _ _ t (shDesc.keep (W := wr) (W' := wr.drew) (fun _ _ => rfl) IA.out) (shDesc.keep (W := wr) (W' := wr.drew) (fun _ _ => rfl) IB.out) (Nat.le_trans HL.out hsz)).mono ?_
          rintro e W9 ⟨rfl, hb9⟩
          refine hK _ _ ?_
          clear hK
          refine AnyK.late 11 (by kernel_rfl) (by kernel_rfl) rfl (fun KK hK => ?_)
          go_simp
          refine hK _ _ ?_
          clear hK
          refine AnyK.done (by kernel_rfl) ?_ _
          have HX9 := Lib.hid ((hb9.block _ (heap_lt HX.out)).trans HX.out)
          have HY9 := Lib.hid ((hb9.block _ (heap_lt HY.out)).trans HY.out)
          have HB9 := Lib.hid (HB.out.drew.trans (hb9.mono hsz))
          clear hb9 d1 e1 m0 m1 m2 m3 m4 m5 n0 n1 n2 n3 n4 n5
          go_wp2_with fail
          refine ⟨⟨k + 1, ?_, ?_, HX9.out, HY9.out, HB9.out⟩, ?_⟩
          · omega
          · go_num
          · simp [intOf]; omega
        · obtain rfl : l1 = k := by omega
          clear hX hY hB
          go_wp2_with fail
          clear d1 e1
          generalize wr = V2 at *
          have d9 : V2.cell? ⟨W.heap.size, 9, none⟩ = some (.slice a9 l9 c9) := by rw [Lib.cell_of_heap (HX.out)]; rfl
          have e9 : V2.cell? ⟨W.heap.size + 1, 9, none⟩ = some (.slice p9 l9 r9) := by rw [Lib.cell_of_heap (HY.out)]; rfl
          go_loopw [7] (fun i wr => ∃ k m : Nat, k ≤ l9 ∧ i = .int .i64 k ∧ wr = V2.drewN m) (fun i _ => l9 - (intOf i).toNat)
          case atStart => exact ⟨0, 0, Nat.zero_le _, rfl, rfl⟩
          case round =>
            obtain ⟨k, m, hk, rfl, hwr⟩ := hrel
            have HWR := Lib.hid hwr
            have hB := below_drew HB.out m
            rw [← hwr] at hB
            have d9 : wr.cell? ⟨W.heap.size, 9, none⟩ = some (.slice a9 l9 c9) := by rw [hwr]; exact d9
            have e9 : wr.cell? ⟨W.heap.size + 1, 9, none⟩ = some (.slice p9 l9 r9) := by rw [hwr]; exact e9
            by_cases hlt : k < l9
            · obtain ⟨ba, oa, t, vs, rfl, _, hx, hba, iA⟩ := (row_lim F9.out (hB.mono HL.out)).item hlt
              obtain ⟨bb, ob, t', us, rfl, _, hx', hbb, iB⟩ := (row_lim G9.out (hB.mono HL.out)).item hlt
              obtain rfl := Option.some.inj (hx.symm.trans hx')
              have i0 : (k : Int) < (l9 : Int) := by omega
              have i1 : (0 : Int) ≤ (k : Int) := by omega
              obtain rfl := job_is.1 iA
              obtain rfl := job_is.1 iB
              have x0 : wr.cell? ⟨ba, oa + k * 3, none⟩ = some (.int .i64 t.c) := hba 0 _ rfl
              have x1 : wr.cell? ⟨ba, oa + k * 3 + 1, none⟩ = some (.int .i64 t.e) := hba 1 _ rfl
              have x2 : wr.cell? ⟨ba, oa + k * 3 + 2, none⟩ = some (.int .i64 t.f) := hba 2 _ rfl
              have y0 : wr.cell? ⟨bb, ob + k * 3, none⟩ = some (.int .i64 t.c) := hbb 0 _ rfl
              have y1 : wr.cell? ⟨bb, ob + k * 3 + 1, none⟩ = some (.int .i64 t.e) := hbb 1 _ rfl
              have y2 : wr.cell? ⟨bb, ob + k * 3 + 2, none⟩ = some (.int .i64 t.f) := hbb 2 _ rfl
              clear hba hbb hx hx' iA iB hwr hB
              go_wp2_with fail
              go_quiet (fail)
              go_wp2_with fail
              refine ⟨⟨k + 1, m + nq, ?_, ?_, ?_⟩, ?_⟩
              · omega
              · go_num
              · rw [HWR.out, World.drewN_drewN]
              · simp [intOf]; omega
            · obtain rfl : l9 = k := by omega
              have HBF := Lib.hid hB
              clear hwr hB
              go_wp2_with fail
              go_returns
              exact ⟨rfl, HBF.out⟩
end Go.Proofs.YtoaohoeghlidaaaGreatDoor
