/-
  What is one answers so: images.
-/
import Derived.Test.YtoaohoeghlidaaaGreatDoorEqT
import Derived.Test.YtoaohoeghlidaaaGreatDoorUpto
import Derived.Laws.Rows
namespace Go.Proofs.YtoaohoeghlidaaaGreatDoor
open Go.ChangeShapes Go.WideShapes Go.ChangeAt Go.RowKit

theorem size29 : (Tryz.prog.info? 29).map (·.size) = some 12 := by kernel_rfl

set_option maxHeartbeats 6400000 in
set_option maxRecDepth 100000 in
theorem eq_image : EqT 14 mkA shImg := by
  intro lim W vs us x h1 h2 hl
  obtain ⟨a0, l0, c0, a1, l1, c1, a2, l2, c2, a3, l3, c3, a5, l5, c5, a6, l6, c6, a7, l7, c7, a8, l8, c8, a9, l9, c9, rfl, f0, f1, f2, f3, f5, f6, f7, f8, f9⟩ := img_is.1 h1
  obtain ⟨p0, q0, r0, p1, q1, r1, p2, q2, r2, p3, q3, r3, p5, q5, r5, p6, q6, r6, p7, q7, r7, p8, q8, r8, p9, q9, r9, rfl, g0, g1, g2, g3, g5, g6, g7, g8, g9⟩ := img_is.1 h2
  obtain rfl : l0 = q0 := f0.1.symm.trans g0.1
  obtain rfl : l1 = q1 := f1.1.symm.trans g1.1
  obtain rfl : l2 = q2 := f2.1.symm.trans g2.1
  obtain rfl : l9 = q9 := f9.1.symm.trans g9.1
  have hbx : ((W.alloc (.cells #[.slice a0 l0 c0, .slice a1 l1 c1, .slice a2 l2 c2, .slice a3 l3 c3, .string x.globals, .slice a5 l5 c5, .slice a6 l6 c6, .slice a7 l7 c7, .slice a8 l8 c8, .slice a9 l9 c9, .int .i64 x.d, .int .i64 x.w] 29)).alloc (.cells #[.slice p0 l0 r0, .slice p1 l1 r1, .slice p2 l2 r2, .slice p3 q3 r3, .string x.globals, .slice p5 q5 r5, .slice p6 q6 r6, .slice p7 q7 r7, .slice p8 q8 r8, .slice p9 l9 r9, .int .i64 x.d, .int .i64 x.w] 29)).heap[W.heap.size]? = some (.cells #[.slice a0 l0 c0, .slice a1 l1 c1, .slice a2 l2 c2, .slice a3 l3 c3, .string x.globals, .slice a5 l5 c5, .slice a6 l6 c6, .slice a7 l7 c7, .slice a8 l8 c8, .slice a9 l9 c9, .int .i64 x.d, .int .i64 x.w] 29 (0, 0)) := (Below.heap_alloc _ _ _ (by simp)).trans (heap_alloc_new W _)
  have hby : ((W.alloc (.cells #[.slice a0 l0 c0, .slice a1 l1 c1, .slice a2 l2 c2, .slice a3 l3 c3, .string x.globals, .slice a5 l5 c5, .slice a6 l6 c6, .slice a7 l7 c7, .slice a8 l8 c8, .slice a9 l9 c9, .int .i64 x.d, .int .i64 x.w] 29)).alloc (.cells #[.slice p0 l0 r0, .slice p1 l1 r1, .slice p2 l2 r2, .slice p3 q3 r3, .string x.globals, .slice p5 q5 r5, .slice p6 q6 r6, .slice p7 q7 r7, .slice p8 q8 r8, .slice p9 l9 r9, .int .i64 x.d, .int .i64 x.w] 29)).heap[W.heap.size + 1]? = some (.cells #[.slice p0 l0 r0, .slice p1 l1 r1, .slice p2 l2 r2, .slice p3 q3 r3, .string x.globals, .slice p5 q5 r5, .slice p6 q6 r6, .slice p7 q7 r7, .slice p8 q8 r8, .slice p9 l9 r9, .int .i64 x.d, .int .i64 x.w] 29 (0, 0)) := by
    have := heap_alloc_new (W.alloc (.cells #[.slice a0 l0 c0, .slice a1 l1 c1, .slice a2 l2 c2, .slice a3 l3 c3, .string x.globals, .slice a5 l5 c5, .slice a6 l6 c6, .slice a7 l7 c7, .slice a8 l8 c8, .slice a9 l9 c9, .int .i64 x.d, .int .i64 x.w] 29)) (.cells #[.slice p0 l0 r0, .slice p1 l1 r1, .slice p2 l2 r2, .slice p3 q3 r3, .string x.globals, .slice p5 q5 r5, .slice p6 q6 r6, .slice p7 q7 r7, .slice p8 q8 r8, .slice p9 l9 r9, .int .i64 x.d, .int .i64 x.w] 29)
    rw [show (W.alloc (.cells #[.slice a0 l0 c0, .slice a1 l1 c1, .slice a2 l2 c2, .slice a3 l3 c3, .string x.globals, .slice a5 l5 c5, .slice a6 l6 c6, .slice a7 l7 c7, .slice a8 l8 c8, .slice a9 l9 c9, .int .i64 x.d, .int .i64 x.w] 29)).heap.size = W.heap.size + 1 by simp] at this
    exact this
  have HB0 := Lib.hid (((Below.refl W.heap.size W).alloc (Nat.le_refl _) (.cells #[.slice a0 l0 c0, .slice a1 l1 c1, .slice a2 l2 c2, .slice a3 l3 c3, .string x.globals, .slice a5 l5 c5, .slice a6 l6 c6, .slice a7 l7 c7, .slice a8 l8 c8, .slice a9 l9 c9, .int .i64 x.d, .int .i64 x.w] 29)).alloc (by simp) (.cells #[.slice p0 l0 r0, .slice p1 l1 r1, .slice p2 l2 r2, .slice p3 q3 r3, .string x.globals, .slice p5 q5 r5, .slice p6 q6 r6, .slice p7 q7 r7, .slice p8 q8 r8, .slice p9 l9 r9, .int .i64 x.d, .int .i64 x.w] 29))
  have HX0 := Lib.hid hbx
  have HY0 := Lib.hid hby
  have HL := Lib.hid hl
  have hm0 : l0 ≤ 9223372036854775807 := by have := f0.le; unfold maxLen at this; omega
  have hn0 : ((l0 : Int) != (l0 : Int)) = false := by simp
  have hm1 : l1 ≤ 9223372036854775807 := by have := f1.le; unfold maxLen at this; omega
  have hn1 : ((l1 : Int) != (l1 : Int)) = false := by simp
  have hm2 : l2 ≤ 9223372036854775807 := by have := f2.le; unfold maxLen at this; omega
  have hn2 : ((l2 : Int) != (l2 : Int)) = false := by simp
  have hm9 : l9 ≤ 9223372036854775807 := by have := f9.le; unfold maxLen at this; omega
  have hn9 : ((l9 : Int) != (l9 : Int)) = false := by simp
  have F0 := Lib.hid f0
  have G0 := Lib.hid g0
  have F1 := Lib.hid f1
  have G1 := Lib.hid g1
  have F2 := Lib.hid f2
  have G2 := Lib.hid g2
  have F3 := Lib.hid f3
  have G3 := Lib.hid g3
  have F5 := Lib.hid f5
  have G5 := Lib.hid g5
  have F6 := Lib.hid f6
  have G6 := Lib.hid g6
  have F7 := Lib.hid f7
  have G7 := Lib.hid g7
  have F8 := Lib.hid f8
  have G8 := Lib.hid g8
  have F9 := Lib.hid f9
  have G9 := Lib.hid g9
  have hsh1 := Lib.hid h1
  have hsh2 := Lib.hid h2
  clear h1 h2 hl hbx hby f0 g0 f1 g1 f2 g2 f3 g3 f5 g5 f6 g6 f7 g7 f8 g8 f9 g9
  show Calls Tryz.prog 14 #[.agg #[.slice a0 l0 c0, .slice a1 l1 c1, .slice a2 l2 c2, .slice a3 l3 c3, .string x.globals, .slice a5 l5 c5, .slice a6 l6 c6, .slice a7 l7 c7, .slice a8 l8 c8, .slice a9 l9 c9, .int .i64 x.d, .int .i64 x.w], .agg #[.slice p0 l0 r0, .slice p1 l1 r1, .slice p2 l2 r2, .slice p3 q3 r3, .string x.globals, .slice p5 q5 r5, .slice p6 q6 r6, .slice p7 q7 r7, .slice p8 q8 r8, .slice p9 l9 r9, .int .i64 x.d, .int .i64 x.w]] W _
  go_enter Tryz.func14, Tryz.ntmps14
  have hct := eq_tables lim ((W.alloc (.cells #[.slice a0 l0 c0, .slice a1 l1 c1, .slice a2 l2 c2, .slice a3 l3 c3, .string x.globals, .slice a5 l5 c5, .slice a6 l6 c6, .slice a7 l7 c7, .slice a8 l8 c8, .slice a9 l9 c9, .int .i64 x.d, .int .i64 x.w] 29)).alloc (.cells #[.slice p0 l0 r0, .slice p1 l1 r1, .slice p2 l2 r2, .slice p3 q3 r3, .string x.globals, .slice p5 q5 r5, .slice p6 q6 r6, .slice p7 q7 r7, .slice p8 q8 r8, .slice p9 l9 r9, .int .i64 x.d, .int .i64 x.w] 29)) _ _ x (shImg.keep (fun k hk => (HB0.out.mono HL.out).block k hk) hsh1.out) (shImg.keep (fun k hk => (HB0.out.mono HL.out).block k hk) hsh2.out) (Nat.le_trans HL.out HB0.out.size)
  go_wp2_with (first | (refine wpList_load_row rfl 29 (.tmp 2) rfl W.heap.size rfl 29 #[.slice a0 l0 c0, .slice a1 l1 c1, .slice a2 l2 c2, .slice a3 l3 c3, .string x.globals, .slice a5 l5 c5, .slice a6 l6 c6, .slice a7 l7 c7, .slice a8 l8 c8, .slice a9 l9 c9, .int .i64 x.d, .int .i64 x.w] (0, 0) _ HX0.out Tryz.underlying29 rfl size29 ?_) | (refine wpList_load_row rfl 29 (.tmp 3) rfl (W.heap.size + 1) rfl 29 #[.slice p0 l0 r0, .slice p1 l1 r1, .slice p2 l2 r2, .slice p3 q3 r3, .string x.globals, .slice p5 q5 r5, .slice p6 q6 r6, .slice p7 q7 r7, .slice p8 q8 r8, .slice p9 l9 r9, .int .i64 x.d, .int .i64 x.w] (0, 0) _ HY0.out Tryz.underlying29 rfl size29 ?_) | (go_at_call 42; refine hct.mono ?_))
  rintro e W1 ⟨rfl, hb1⟩
  have hs0 : W.heap.size + 2 ≤ ((W.alloc (.cells #[.slice a0 l0 c0, .slice a1 l1 c1, .slice a2 l2 c2, .slice a3 l3 c3, .string x.globals, .slice a5 l5 c5, .slice a6 l6 c6, .slice a7 l7 c7, .slice a8 l8 c8, .slice a9 l9 c9, .int .i64 x.d, .int .i64 x.w] 29)).alloc (.cells #[.slice p0 l0 r0, .slice p1 l1 r1, .slice p2 l2 r2, .slice p3 q3 r3, .string x.globals, .slice p5 q5 r5, .slice p6 q6 r6, .slice p7 q7 r7, .slice p8 q8 r8, .slice p9 l9 r9, .int .i64 x.d, .int .i64 x.w] 29)).heap.size := by simp
  have HX1 := Lib.hid ((hb1.block _ (heap_lt HX0.out)).trans HX0.out)
  have HY1 := Lib.hid ((hb1.block _ (heap_lt HY0.out)).trans HY0.out)
  have HB1 := Lib.hid (HB0.out.trans (hb1.mono HB0.out.size))
  clear hb1 hct
  have d10 : W1.cell? ⟨W.heap.size, 10, none⟩ = some (.int .i64 x.d) := by rw [Lib.cell_of_heap (HX1.out)]; rfl
  have e10 : W1.cell? ⟨W.heap.size + 1, 10, none⟩ = some (.int .i64 x.d) := by rw [Lib.cell_of_heap (HY1.out)]; rfl
  have d11 : W1.cell? ⟨W.heap.size, 11, none⟩ = some (.int .i64 x.w) := by rw [Lib.cell_of_heap (HX1.out)]; rfl
  have e11 : W1.cell? ⟨W.heap.size + 1, 11, none⟩ = some (.int .i64 x.w) := by rw [Lib.cell_of_heap (HY1.out)]; rfl
  have d2 : W1.cell? ⟨W.heap.size, 2, none⟩ = some (.slice a2 l2 c2) := by rw [Lib.cell_of_heap (HX1.out)]; rfl
  have e2 : W1.cell? ⟨W.heap.size + 1, 2, none⟩ = some (.slice p2 l2 r2) := by rw [Lib.cell_of_heap (HY1.out)]; rfl
  go_wp2_with fail
  clear d10 e10 d11 e11 d2 e2
  go_loopw [5] (fun i wr => ∃ k : Nat, k ≤ l2 ∧ i = .int .i64 k ∧ wr.heap[W.heap.size]? = some (.cells #[.slice a0 l0 c0, .slice a1 l1 c1, .slice a2 l2 c2, .slice a3 l3 c3, .string x.globals, .slice a5 l5 c5, .slice a6 l6 c6, .slice a7 l7 c7, .slice a8 l8 c8, .slice a9 l9 c9, .int .i64 x.d, .int .i64 x.w] 29 (0, 0)) ∧ wr.heap[W.heap.size + 1]? = some (.cells #[.slice p0 l0 r0, .slice p1 l1 r1, .slice p2 l2 r2, .slice p3 q3 r3, .string x.globals, .slice p5 q5 r5, .slice p6 q6 r6, .slice p7 q7 r7, .slice p8 q8 r8, .slice p9 l9 r9, .int .i64 x.d, .int .i64 x.w] 29 (0, 0)) ∧ Below W.heap.size W wr) (fun i _ => l2 - (intOf i).toNat)
  case atStart => exact ⟨0, Nat.zero_le _, rfl, HX1.out, HY1.out, HB1.out⟩
  case round =>
    clear HX1 HY1 HB1
    obtain ⟨k, hk, rfl, hX, hY, hB⟩ := hrel
    have d2 : wr.cell? ⟨W.heap.size, 2, none⟩ = some (.slice a2 l2 c2) := by rw [Lib.cell_of_heap (hX)]; rfl
    have e2 : wr.cell? ⟨W.heap.size + 1, 2, none⟩ = some (.slice p2 l2 r2) := by rw [Lib.cell_of_heap (hY)]; rfl
    have HX := Lib.hid hX
    have HY := Lib.hid hY
    have HB := Lib.hid hB
    by_cases hlt : k < l2
    · obtain ⟨ba, oa, t, vs, rfl, _, hx, hba, iA⟩ := (row_lim F2.out (hB.mono HL.out)).item hlt
      obtain ⟨bb, ob, t', us, rfl, _, hx', hbb, iB⟩ := (row_lim G2.out (hB.mono HL.out)).item hlt
      obtain rfl := Option.some.inj (hx.symm.trans hx')
      have i0 : (k : Int) < (l2 : Int) := by omega
      have i1 : (0 : Int) ≤ (k : Int) := by omega
      have IA := Lib.hid iA
      have IB := Lib.hid iB
      obtain ⟨z2, z3, z4, rfl, -⟩ := code_is.1 iA
      obtain ⟨y2, y3, y4, rfl, -⟩ := code_is.1 iB
      have m0 := hba 0 _ rfl
      have m1 := hba 1 _ rfl
      have m2 := hba 2 _ rfl
      have m3 := hba 3 _ rfl
      have m4 := hba 4 _ rfl
      have m5 := hba 5 _ rfl
      have n0 := hbb 0 _ rfl
      have n1 := hbb 1 _ rfl
      have n2 := hbb 2 _ rfl
      have n3 := hbb 3 _ rfl
      have n4 := hbb 4 _ rfl
      have n5 := hbb 5 _ rfl
      rw [show oa + k * shCode.n + 0 = oa + k * 6 from rfl] at m0
      rw [show ob + k * shCode.n + 0 = ob + k * 6 from rfl] at n0
      simp only [show shCode.n = 6 from rfl] at m1 m2 m3 m4 m5 n1 n2 n3 n4 n5
      have hsz := hB.size
      clear hba hbb hx hx' iA iB hX hY hB
      go_wp2_with fail
      refine AnyK.start 10 (fun w' => w' = wr.drew) rfl rfl (fun _ => ?_)
      refine AnyK.take (oi := { dst := _, op := _, type := _, pos := _, after := _, guard := _ }) 0 ?_ rfl (by kernel_rfl) (fun _ _ _ h => h) (Or.inl ⟨by rfl, ?_⟩) rfl ?_
      rotate_left
      · (intro w' hS; subst hS; go_simp; with_reducible rfl)
      simp only [Act.put, List.setIfInBounds_toArray, List.set_cons_zero, List.set_cons_succ]
      refine AnyK.take (oi := { dst := _, op := _, type := _, pos := _, after := _, guard := _ }) 1 ?_ rfl (by kernel_rfl) (fun _ _ _ h => h) (Or.inl ⟨by rfl, ?_⟩) rfl ?_
      rotate_left
      · (intro w' hS; subst hS; go_simp; with_reducible rfl)
      simp only [Act.put, List.setIfInBounds_toArray, List.set_cons_zero, List.set_cons_succ]
      refine AnyK.take (oi := { dst := _, op := _, type := _, pos := _, after := _, guard := _ }) 2 ?_ rfl (by kernel_rfl) (fun _ _ _ h => h) (Or.inl ⟨by rfl, ?_⟩) rfl ?_
      rotate_left
      · (intro w' hS; subst hS; go_simp; with_reducible rfl)
      simp only [Act.put, List.setIfInBounds_toArray, List.set_cons_zero, List.set_cons_succ]
      refine AnyK.take (oi := { dst := _, op := _, type := _, pos := _, after := _, guard := _ }) 3 ?_ rfl (by kernel_rfl) (fun _ _ _ h => h) (Or.inl ⟨by rfl, ?_⟩) rfl ?_
      rotate_left
      · (intro w' hS; subst hS; go_simp; with_reducible rfl)
      simp only [Act.put, List.setIfInBounds_toArray, List.set_cons_zero, List.set_cons_succ]
      refine AnyK.take (oi := { dst := _, op := _, type := _, pos := _, after := _, guard := _ }) 4 ?_ rfl (by kernel_rfl) (fun _ _ _ h => h) (Or.inl ⟨by rfl, ?_⟩) rfl ?_
      rotate_left
      · (intro w' hS; subst hS; go_simp; with_reducible rfl)
      simp only [Act.put, List.setIfInBounds_toArray, List.set_cons_zero, List.set_cons_succ]
      refine AnyK.take (oi := { dst := _, op := _, type := _, pos := _, after := _, guard := _ }) 5 ?_ rfl (by kernel_rfl) (fun _ _ _ h => h) (Or.inl ⟨by rfl, ?_⟩) rfl ?_
      rotate_left
      · (intro w' hS; subst hS; go_simp; with_reducible rfl)
      simp only [Act.put, List.setIfInBounds_toArray, List.set_cons_zero, List.set_cons_succ]
      refine AnyK.take (oi := { dst := _, op := _, type := _, pos := _, after := _, guard := _ }) 6 ?_ rfl (by kernel_rfl) (fun _ _ _ h => h) (Or.inl ⟨by rfl, ?_⟩) rfl ?_
      rotate_left
      · (intro w' hS; subst hS; go_simp; with_reducible rfl)
      simp only [Act.put, List.setIfInBounds_toArray, List.set_cons_zero, List.set_cons_succ]
      refine AnyK.take (oi := { dst := _, op := _, type := _, pos := _, after := _, guard := _ }) 7 ?_ rfl (by kernel_rfl) (fun _ _ _ h => h) (Or.inl ⟨by rfl, ?_⟩) rfl ?_
      rotate_left
      · (intro w' hS; subst hS; go_simp; with_reducible rfl)
      simp only [Act.put, List.setIfInBounds_toArray, List.set_cons_zero, List.set_cons_succ]
      refine AnyK.take (oi := { dst := _, op := _, type := _, pos := _, after := _, guard := _ }) 8 ?_ rfl (by kernel_rfl) (fun _ _ _ h => h) (Or.inl ⟨by rfl, ?_⟩) rfl ?_
      rotate_left
      · (intro w' hS; subst hS; go_simp; with_reducible rfl)
      simp only [Act.put, List.setIfInBounds_toArray, List.set_cons_zero, List.set_cons_succ]
      refine AnyK.take (oi := { dst := _, op := _, type := _, pos := _, after := _, guard := _ }) 9 ?_ rfl (by kernel_rfl) (fun _ _ _ h => h) (Or.inl ⟨by rfl, ?_⟩) rfl ?_
      rotate_left
      · (intro w' hS; subst hS; go_simp; with_reducible rfl)
      simp only [Act.put, List.setIfInBounds_toArray, List.set_cons_zero, List.set_cons_succ]
      refine AnyK.late 10 (by kernel_rfl) (by kernel_rfl) rfl (fun KK hK => ?_)
      go_simp
      refine (eq_code lim wr.drew _ _ t (shCode.keep (W := wr) (W' := wr.drew) (fun _ _ => rfl) IA.out) (shCode.keep (W := wr) (W' := wr.drew) (fun _ _ => rfl) IB.out) (Nat.le_trans HL.out hsz)).mono ?_
      rintro e W9 ⟨rfl, hb9⟩
      refine hK _ _ ?_
      clear hK
      refine AnyK.late 11 (by kernel_rfl) (by kernel_rfl) rfl (fun KK hK => ?_)
      go_simp
      refine hK _ _ ?_
      clear hK
      refine AnyK.done (by kernel_rfl) ?_ _
      have HX9 := Lib.hid ((hb9.block _ (heap_lt HX.out)).trans HX.out)
      have HY9 := Lib.hid ((hb9.block _ (heap_lt HY.out)).trans HY.out)
      have HB9 := Lib.hid (HB.out.drew.trans (hb9.mono hsz))
      clear hb9 d2 e2 m0 m1 m2 m3 m4 m5 n0 n1 n2 n3 n4 n5
      go_wp2_with fail
      refine ⟨⟨k + 1, ?_, ?_, HX9.out, HY9.out, HB9.out⟩, ?_⟩
      · omega
      · go_num
      · simp [intOf]; omega
    · obtain rfl : l2 = k := by omega
      clear hX hY hB
      go_wp2_with fail
      go_returns
      exact ⟨rfl, HB.out⟩
end Go.Proofs.YtoaohoeghlidaaaGreatDoor
