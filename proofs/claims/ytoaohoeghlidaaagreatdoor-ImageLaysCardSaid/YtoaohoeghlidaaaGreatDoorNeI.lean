/-
  What is not one answers so: images.
-/
import Derived.Test.YtoaohoeghlidaaaGreatDoorNeT
import Derived.Test.YtoaohoeghlidaaaGreatDoorNeE
import Derived.Test.YtoaohoeghlidaaaGreatDoorEqI
namespace Go.Proofs.YtoaohoeghlidaaaGreatDoor
open Go.ChangeShapes Go.WideShapes Go.ChangeAt Go.RowKit

theorem tab_y {x y : ImgD} (h : (x.faces = y.faces ∧ x.classes = y.classes ∧ x.codes.length = y.codes.length ∧ x.insts = y.insts ∧ x.globals = y.globals ∧ x.init = y.init ∧ x.blocks = y.blocks ∧ x.ins = y.ins ∧ x.outs = y.outs ∧ x.jobs = y.jobs)) : y = ⟨x.faces, x.classes, y.codes, x.insts, x.globals, x.init, x.blocks, x.ins, x.outs, x.jobs, y.d, y.w⟩ := by
  rcases x with ⟨_, _, _, _, _, _, _, _, _, _, _, _⟩
  rcases y with ⟨_, _, _, _, _, _, _, _, _, _, _, _⟩
  dsimp only at h
  obtain ⟨t0, t1, -, t3, t4, t5, t6, t7, t8, t9⟩ := h
  subst t0 t1 t3 t4 t5 t6 t7 t8 t9
  rfl
theorem tab_all {x y : ImgD} (h : (x.faces = y.faces ∧ x.classes = y.classes ∧ x.codes.length = y.codes.length ∧ x.insts = y.insts ∧ x.globals = y.globals ∧ x.init = y.init ∧ x.blocks = y.blocks ∧ x.ins = y.ins ∧ x.outs = y.outs ∧ x.jobs = y.jobs)) (hc : x.codes = y.codes) (hd : x.d = y.d) (hw : x.w = y.w) : x = y := by
  have hy := tab_y h
  rw [← hc, ← hd, ← hw] at hy
  exact hy.symm
theorem eq_tabs2 (lim : Nat) (W : World) (vs us : List Value) (x y : ImgD) (h1 : shImg.Is (fun k => k < lim) W vs x) (h2 : shImg.Is (fun k => k < lim) W us y) (hl : lim ≤ W.heap.size) (htd : (x.faces = y.faces ∧ x.classes = y.classes ∧ x.codes.length = y.codes.length ∧ x.insts = y.insts ∧ x.globals = y.globals ∧ x.init = y.init ∧ x.blocks = y.blocks ∧ x.ins = y.ins ∧ x.outs = y.outs ∧ x.jobs = y.jobs)) :
    Calls Tryz.prog 42 #[mkA vs, mkA us] W fun e W' => e = .returned (.bool true) ∧ Below W.heap.size W W' :=
  eq_tabs lim W vs us x y.codes y.d y.w htd.2.2.1 h1 (Eq.mp (congrArg (fun z => shImg.Is (fun k => k < lim) W us z) (tab_y htd)) h2) hl

set_option maxHeartbeats 6400000 in
set_option maxRecDepth 100000 in
theorem ne_image : NeT 14 mkA shImg := by
  intro lim W vs us x y h1 h2 hl hne
  obtain ⟨a0, l0, c0, a1, l1, c1, a2, l2, c2, a3, l3, c3, a5, l5, c5, a6, l6, c6, a7, l7, c7, a8, l8, c8, a9, l9, c9, rfl, f0, f1, f2, f3, f5, f6, f7, f8, f9⟩ := img_is.1 h1
  obtain ⟨p0, q0, r0, p1, q1, r1, p2, q2, r2, p3, q3, r3, p5, q5, r5, p6, q6, r6, p7, q7, r7, p8, q8, r8, p9, q9, r9, rfl, g0, g1, g2, g3, g5, g6, g7, g8, g9⟩ := img_is.1 h2
  have hbx : ((W.alloc (.cells #[.slice a0 l0 c0, .slice a1 l1 c1, .slice a2 l2 c2, .slice a3 l3 c3, .string x.globals, .slice a5 l5 c5, .slice a6 l6 c6, .slice a7 l7 c7, .slice a8 l8 c8, .slice a9 l9 c9, .int .i64 x.d, .int .i64 x.w] 29)).alloc (.cells #[.slice p0 q0 r0, .slice p1 q1 r1, .slice p2 q2 r2, .slice p3 q3 r3, .string y.globals, .slice p5 q5 r5, .slice p6 q6 r6, .slice p7 q7 r7, .slice p8 q8 r8, .slice p9 q9 r9, .int .i64 y.d, .int .i64 y.w] 29)).heap[W.heap.size]? = some (.cells #[.slice a0 l0 c0, .slice a1 l1 c1, .slice a2 l2 c2, .slice a3 l3 c3, .string x.globals, .slice a5 l5 c5, .slice a6 l6 c6, .slice a7 l7 c7, .slice a8 l8 c8, .slice a9 l9 c9, .int .i64 x.d, .int .i64 x.w] 29 (0, 0)) := (Below.heap_alloc _ _ _ (by simp)).trans (heap_alloc_new W _)
  have hby : ((W.alloc (.cells #[.slice a0 l0 c0, .slice a1 l1 c1, .slice a2 l2 c2, .slice a3 l3 c3, .string x.globals, .slice a5 l5 c5, .slice a6 l6 c6, .slice a7 l7 c7, .slice a8 l8 c8, .slice a9 l9 c9, .int .i64 x.d, .int .i64 x.w] 29)).alloc (.cells #[.slice p0 q0 r0, .slice p1 q1 r1, .slice p2 q2 r2, .slice p3 q3 r3, .string y.globals, .slice p5 q5 r5, .slice p6 q6 r6, .slice p7 q7 r7, .slice p8 q8 r8, .slice p9 q9 r9, .int .i64 y.d, .int .i64 y.w] 29)).heap[W.heap.size + 1]? = some (.cells #[.slice p0 q0 r0, .slice p1 q1 r1, .slice p2 q2 r2, .slice p3 q3 r3, .string y.globals, .slice p5 q5 r5, .slice p6 q6 r6, .slice p7 q7 r7, .slice p8 q8 r8, .slice p9 q9 r9, .int .i64 y.d, .int .i64 y.w] 29 (0, 0)) := by
    have := heap_alloc_new (W.alloc (.cells #[.slice a0 l0 c0, .slice a1 l1 c1, .slice a2 l2 c2, .slice a3 l3 c3, .string x.globals, .slice a5 l5 c5, .slice a6 l6 c6, .slice a7 l7 c7, .slice a8 l8 c8, .slice a9 l9 c9, .int .i64 x.d, .int .i64 x.w] 29)) (.cells #[.slice p0 q0 r0, .slice p1 q1 r1, .slice p2 q2 r2, .slice p3 q3 r3, .string y.globals, .slice p5 q5 r5, .slice p6 q6 r6, .slice p7 q7 r7, .slice p8 q8 r8, .slice p9 q9 r9, .int .i64 y.d, .int .i64 y.w] 29)
    rw [show (W.alloc (.cells #[.slice a0 l0 c0, .slice a1 l1 c1, .slice a2 l2 c2, .slice a3 l3 c3, .string x.globals, .slice a5 l5 c5, .slice a6 l6 c6, .slice a7 l7 c7, .slice a8 l8 c8, .slice a9 l9 c9, .int .i64 x.d, .int .i64 x.w] 29)).heap.size = W.heap.size + 1 by simp] at this
    exact this
  have HB0 := Lib.hid (((Below.refl W.heap.size W).alloc (Nat.le_refl _) (.cells #[.slice a0 l0 c0, .slice a1 l1 c1, .slice a2 l2 c2, .slice a3 l3 c3, .string x.globals, .slice a5 l5 c5, .slice a6 l6 c6, .slice a7 l7 c7, .slice a8 l8 c8, .slice a9 l9 c9, .int .i64 x.d, .int .i64 x.w] 29)).alloc (by simp) (.cells #[.slice p0 q0 r0, .slice p1 q1 r1, .slice p2 q2 r2, .slice p3 q3 r3, .string y.globals, .slice p5 q5 r5, .slice p6 q6 r6, .slice p7 q7 r7, .slice p8 q8 r8, .slice p9 q9 r9, .int .i64 y.d, .int .i64 y.w] 29))
  have HX0 := Lib.hid hbx
  have HY0 := Lib.hid hby
  have HL := Lib.hid hl
  have HNE := Lib.hid hne
  have hm2 : l2 ≤ 9223372036854775807 := by have := f2.le; unfold maxLen at this; omega
  have F2 := Lib.hid f2
  have G2 := Lib.hid g2
  have hlq := (And.intro f2.1 g2.1)
  have hsh1 := Lib.hid h1
  have hsh2 := Lib.hid h2
  clear h1 h2 hl hbx hby hne f0 g0 f1 g1 f2 g2 f3 g3 f5 g5 f6 g6 f7 g7 f8 g8 f9 g9
  show Calls Tryz.prog 14 #[.agg #[.slice a0 l0 c0, .slice a1 l1 c1, .slice a2 l2 c2, .slice a3 l3 c3, .string x.globals, .slice a5 l5 c5, .slice a6 l6 c6, .slice a7 l7 c7, .slice a8 l8 c8, .slice a9 l9 c9, .int .i64 x.d, .int .i64 x.w], .agg #[.slice p0 q0 r0, .slice p1 q1 r1, .slice p2 q2 r2, .slice p3 q3 r3, .string y.globals, .slice p5 q5 r5, .slice p6 q6 r6, .slice p7 q7 r7, .slice p8 q8 r8, .slice p9 q9 r9, .int .i64 y.d, .int .i64 y.w]] W _
  go_enter Tryz.func14, Tryz.ntmps14
  by_cases htd : (x.faces = y.faces ∧ x.classes = y.classes ∧ x.codes.length = y.codes.length ∧ x.insts = y.insts ∧ x.globals = y.globals ∧ x.init = y.init ∧ x.blocks = y.blocks ∧ x.ins = y.ins ∧ x.outs = y.outs ∧ x.jobs = y.jobs)
  · obtain rfl : l2 = q2 := (hlq.1.symm.trans htd.2.2.1).trans hlq.2
    have HTD := Lib.hid htd
    clear htd hlq
    have hct := eq_tabs2 lim ((W.alloc (.cells #[.slice a0 l0 c0, .slice a1 l1 c1, .slice a2 l2 c2, .slice a3 l3 c3, .string x.globals, .slice a5 l5 c5, .slice a6 l6 c6, .slice a7 l7 c7, .slice a8 l8 c8, .slice a9 l9 c9, .int .i64 x.d, .int .i64 x.w] 29)).alloc (.cells #[.slice p0 q0 r0, .slice p1 q1 r1, .slice p2 l2 r2, .slice p3 q3 r3, .string y.globals, .slice p5 q5 r5, .slice p6 q6 r6, .slice p7 q7 r7, .slice p8 q8 r8, .slice p9 q9 r9, .int .i64 y.d, .int .i64 y.w] 29)) _ _ x y (shImg.keep (fun k hk => (HB0.out.mono HL.out).block k hk) hsh1.out) (shImg.keep (fun k hk => (HB0.out.mono HL.out).block k hk) hsh2.out) (Nat.le_trans HL.out HB0.out.size) HTD.out
    go_wp2_with (first | (refine wpList_load_row rfl 29 (.tmp 2) rfl W.heap.size rfl 29 #[.slice a0 l0 c0, .slice a1 l1 c1, .slice a2 l2 c2, .slice a3 l3 c3, .string x.globals, .slice a5 l5 c5, .slice a6 l6 c6, .slice a7 l7 c7, .slice a8 l8 c8, .slice a9 l9 c9, .int .i64 x.d, .int .i64 x.w] (0, 0) _ HX0.out Tryz.underlying29 rfl size29 ?_) | (refine wpList_load_row rfl 29 (.tmp 3) rfl (W.heap.size + 1) rfl 29 #[.slice p0 q0 r0, .slice p1 q1 r1, .slice p2 l2 r2, .slice p3 q3 r3, .string y.globals, .slice p5 q5 r5, .slice p6 q6 r6, .slice p7 q7 r7, .slice p8 q8 r8, .slice p9 q9 r9, .int .i64 y.d, .int .i64 y.w] (0, 0) _ HY0.out Tryz.underlying29 rfl size29 ?_) | (go_at_call 42; refine hct.mono ?_))
    rintro e W1 ⟨rfl, hb1⟩
    have HB1 := Lib.hid (HB0.out.trans (hb1.mono HB0.out.size))
    have hs0 : W.heap.size + 2 ≤ ((W.alloc (.cells #[.slice a0 l0 c0, .slice a1 l1 c1, .slice a2 l2 c2, .slice a3 l3 c3, .string x.globals, .slice a5 l5 c5, .slice a6 l6 c6, .slice a7 l7 c7, .slice a8 l8 c8, .slice a9 l9 c9, .int .i64 x.d, .int .i64 x.w] 29)).alloc (.cells #[.slice p0 q0 r0, .slice p1 q1 r1, .slice p2 l2 r2, .slice p3 q3 r3, .string y.globals, .slice p5 q5 r5, .slice p6 q6 r6, .slice p7 q7 r7, .slice p8 q8 r8, .slice p9 q9 r9, .int .i64 y.d, .int .i64 y.w] 29)).heap.size := by simp
    have HX1 := Lib.hid ((hb1.block _ (heap_lt HX0.out)).trans HX0.out)
    have HY1 := Lib.hid ((hb1.block _ (heap_lt HY0.out)).trans HY0.out)
    clear hb1 hct
    have d10 : W1.cell? ⟨W.heap.size, 10, none⟩ = some (.int .i64 x.d) := by rw [Lib.cell_of_heap (HX1.out)]; rfl
    have e10 : W1.cell? ⟨W.heap.size + 1, 10, none⟩ = some (.int .i64 y.d) := by rw [Lib.cell_of_heap (HY1.out)]; rfl
    have d11 : W1.cell? ⟨W.heap.size, 11, none⟩ = some (.int .i64 x.w) := by rw [Lib.cell_of_heap (HX1.out)]; rfl
    have e11 : W1.cell? ⟨W.heap.size + 1, 11, none⟩ = some (.int .i64 y.w) := by rw [Lib.cell_of_heap (HY1.out)]; rfl
    have d2 : W1.cell? ⟨W.heap.size, 2, none⟩ = some (.slice a2 l2 c2) := by rw [Lib.cell_of_heap (HX1.out)]; rfl
    have e2 : W1.cell? ⟨W.heap.size + 1, 2, none⟩ = some (.slice p2 l2 r2) := by rw [Lib.cell_of_heap (HY1.out)]; rfl
    by_cases bd : x.d = y.d
    · have td : (x.d != y.d) = false := by rw [bd]; simp
      have BD := Lib.hid bd
      clear bd
      by_cases bw : x.w = y.w
      · have tw : (x.w != y.w) = false := by rw [bw]; simp
        have BW := Lib.hid bw
        clear bw
        go_wp2_with fail
        clear d10 e10 d11 e11 d2 e2
        go_loopw [5] (fun i wr => ∃ k : Nat, k ≤ l2 ∧ i = .int .i64 k ∧ wr.heap[W.heap.size]? = some (.cells #[.slice a0 l0 c0, .slice a1 l1 c1, .slice a2 l2 c2, .slice a3 l3 c3, .string x.globals, .slice a5 l5 c5, .slice a6 l6 c6, .slice a7 l7 c7, .slice a8 l8 c8, .slice a9 l9 c9, .int .i64 x.d, .int .i64 x.w] 29 (0, 0)) ∧ wr.heap[W.heap.size + 1]? = some (.cells #[.slice p0 q0 r0, .slice p1 q1 r1, .slice p2 l2 r2, .slice p3 q3 r3, .string y.globals, .slice p5 q5 r5, .slice p6 q6 r6, .slice p7 q7 r7, .slice p8 q8 r8, .slice p9 q9 r9, .int .i64 y.d, .int .i64 y.w] 29 (0, 0)) ∧ Below W.heap.size W wr ∧ (∀ j, j < k → x.codes[j]? = y.codes[j]?)) (fun i _ => l2 - (intOf i).toNat)
        case atStart => exact ⟨0, Nat.zero_le _, rfl, HX1.out, HY1.out, HB1.out, fun j hj => absurd hj (Nat.not_lt_zero j)⟩
        case round =>
          clear HX1 HY1 HB1
          obtain ⟨k, hk, rfl, hX, hY, hB, hsame⟩ := hrel
          have HSM := Lib.hid hsame
          clear hsame
          have d2 : wr.cell? ⟨W.heap.size, 2, none⟩ = some (.slice a2 l2 c2) := by rw [Lib.cell_of_heap (hX)]; rfl
          have e2 : wr.cell? ⟨W.heap.size + 1, 2, none⟩ = some (.slice p2 l2 r2) := by rw [Lib.cell_of_heap (hY)]; rfl
          have HX := Lib.hid hX
          have HY := Lib.hid hY
          have HB := Lib.hid hB
          by_cases hlt : k < l2
          · obtain ⟨ba, oa, t, vs, rfl, _, hx, hba, iA⟩ := (row_lim F2.out (hB.mono HL.out)).item hlt
            obtain ⟨bb, ob, t', us, rfl, _, hx', hbb, iB⟩ := (row_lim G2.out (hB.mono HL.out)).item hlt
            have HXX := Lib.hid hx
            have HXY := Lib.hid hx'
            have i0 : (k : Int) < (l2 : Int) := by omega
            have i1 : (0 : Int) ≤ (k : Int) := by omega
            have IA := Lib.hid iA
            have IB := Lib.hid iB
            obtain ⟨z2, z3, z4, rfl, -⟩ := code_is.1 iA
            obtain ⟨y2, y3, y4, rfl, -⟩ := code_is.1 iB
            have m0 := hba 0 _ rfl
            have n0 := hbb 0 _ rfl
            have m1 := hba 1 _ rfl
            have n1 := hbb 1 _ rfl
            have m2 := hba 2 _ rfl
            have n2 := hbb 2 _ rfl
            have m3 := hba 3 _ rfl
            have n3 := hbb 3 _ rfl
            have m4 := hba 4 _ rfl
            have n4 := hbb 4 _ rfl
            have m5 := hba 5 _ rfl
            have n5 := hbb 5 _ rfl
            rw [show oa + k * shCode.n + 0 = oa + k * 6 from rfl] at m0
            rw [show ob + k * shCode.n + 0 = ob + k * 6 from rfl] at n0
            simp only [show shCode.n = 6 from rfl] at m1 m2 m3 m4 m5 n1 n2 n3 n4 n5
            have hsz := hB.size
            clear hba hbb hx hx' iA iB hX hY hB
            by_cases htt : t = t'
            · have HTT := Lib.hid htt
              clear htt
              go_wp2_with fail
              refine AnyK.start 10 (fun w' => w' = wr.drew) rfl rfl (fun _ => ?_)
              refine AnyK.take (oi := { dst := _, op := _, type := _, pos := _, after := _, guard := _ }) 0 ?_ rfl (by kernel_rfl) (fun _ _ _ h => h) (Or.inl ⟨by rfl, ?_⟩) rfl ?_
              rotate_left
              · (intro w' hS; subst hS; go_simp; with_reducible rfl)
              simp only [Act.put, List.setIfInBounds_toArray, List.set_cons_zero, List.set_cons_succ]
              refine AnyK.take (oi := { dst := _, op := _, type := _, pos := _, after := _, guard := _ }) 1 ?_ rfl (by kernel_rfl) (fun _ _ _ h => h) (Or.inl ⟨by rfl, ?_⟩) rfl ?_
              rotate_left
              · (intro w' hS; subst hS; go_simp; with_reducible rfl)
              simp only [Act.put, List.setIfInBounds_toArray, List.set_cons_zero, List.set_cons_succ]
              refine AnyK.take (oi := { dst := _, op := _, type := _, pos := _, after := _, guard := _ }) 2 ?_ rfl (by kernel_rfl) (fun _ _ _ h => h) (Or.inl ⟨by rfl, ?_⟩) rfl ?_
              rotate_left
              · (intro w' hS; subst hS; go_simp; with_reducible rfl)
              simp only [Act.put, List.setIfInBounds_toArray, List.set_cons_zero, List.set_cons_succ]
              refine AnyK.take (oi := { dst := _, op := _, type := _, pos := _, after := _, guard := _ }) 3 ?_ rfl (by kernel_rfl) (fun _ _ _ h => h) (Or.inl ⟨by rfl, ?_⟩) rfl ?_
              rotate_left
              · (intro w' hS; subst hS; go_simp; with_reducible rfl)
              simp only [Act.put, List.setIfInBounds_toArray, List.set_cons_zero, List.set_cons_succ]
              refine AnyK.take (oi := { dst := _, op := _, type := _, pos := _, after := _, guard := _ }) 4 ?_ rfl (by kernel_rfl) (fun _ _ _ h => h) (Or.inl ⟨by rfl, ?_⟩) rfl ?_
              rotate_left
              · (intro w' hS; subst hS; go_simp; with_reducible rfl)
              simp only [Act.put, List.setIfInBounds_toArray, List.set_cons_zero, List.set_cons_succ]
              refine AnyK.take (oi := { dst := _, op := _, type := _, pos := _, after := _, guard := _ }) 5 ?_ rfl (by kernel_rfl) (fun _ _ _ h => h) (Or.inl ⟨by rfl, ?_⟩) rfl ?_
              rotate_left
              · (intro w' hS; subst hS; go_simp; with_reducible rfl)
              simp only [Act.put, List.setIfInBounds_toArray, List.set_cons_zero, List.set_cons_succ]
              refine AnyK.take (oi := { dst := _, op := _, type := _, pos := _, after := _, guard := _ }) 6 ?_ rfl (by kernel_rfl) (fun _ _ _ h => h) (Or.inl ⟨by rfl, ?_⟩) rfl ?_
              rotate_left
              · (intro w' hS; subst hS; go_simp; with_reducible rfl)
              simp only [Act.put, List.setIfInBounds_toArray, List.set_cons_zero, List.set_cons_succ]
              refine AnyK.take (oi := { dst := _, op := _, type := _, pos := _, after := _, guard := _ }) 7 ?_ rfl (by kernel_rfl) (fun _ _ _ h => h) (Or.inl ⟨by rfl, ?_⟩) rfl ?_
              rotate_left
              · (intro w' hS; subst hS; go_simp; with_reducible rfl)
              simp only [Act.put, List.setIfInBounds_toArray, List.set_cons_zero, List.set_cons_succ]
              refine AnyK.take (oi := { dst := _, op := _, type := _, pos := _, after := _, guard := _ }) 8 ?_ rfl (by kernel_rfl) (fun _ _ _ h => h) (Or.inl ⟨by rfl, ?_⟩) rfl ?_
              rotate_left
              · (intro w' hS; subst hS; go_simp; with_reducible rfl)
              simp only [Act.put, List.setIfInBounds_toArray, List.set_cons_zero, List.set_cons_succ]
              refine AnyK.take (oi := { dst := _, op := _, type := _, pos := _, after := _, guard := _ }) 9 ?_ rfl (by kernel_rfl) (fun _ _ _ h => h) (Or.inl ⟨by rfl, ?_⟩) rfl ?_
              rotate_left
              · (intro w' hS; subst hS; go_simp; with_reducible rfl)
              simp only [Act.put, List.setIfInBounds_toArray, List.set_cons_zero, List.set_cons_succ]
              refine AnyK.late 10 (by kernel_rfl) (by kernel_rfl) rfl (fun KK hK => ?_)
              go_simp
              refine (eq_code.two (lim := lim) (W := wr.drew) (x := t) (y := t') (shCode.keep (W := wr) (W' := wr.drew) (fun _ _ => rfl) IA.out) (shCode.keep (W := wr) (W' := wr.drew) (fun _ _ => rfl) IB.out) (Nat.le_trans HL.out hsz) HTT.out).mono ?_
              rintro e W9 ⟨rfl, hb9⟩
              refine hK _ _ ?_
              clear hK
              refine AnyK.late 11 (by kernel_rfl) (by kernel_rfl) rfl (fun KK hK => ?_)
              go_simp
              refine hK _ _ ?_
              clear hK
              refine AnyK.done (by kernel_rfl) ?_ _
              have HX9 := Lib.hid ((hb9.block _ (heap_lt HX.out)).trans HX.out)
              have HY9 := Lib.hid ((hb9.block _ (heap_lt HY.out)).trans HY.out)
              have HB9 := Lib.hid (HB.out.drew.trans (hb9.mono hsz))
              clear hb9 d2 e2 m0 m1 m2 m3 m4 m5 n0 n1 n2 n3 n4 n5
              go_wp2_with fail
              refine ⟨⟨k + 1, ?_, ?_, HX9.out, HY9.out, HB9.out, ?_⟩, ?_⟩
              · omega
              · go_num
              · intro j hj
                rcases Nat.lt_or_ge j k with h | h
                · exact HSM.out j h
                · rw [show j = k by omega, HXX.out, HXY.out, HTT.out]
              · simp [intOf]; omega
            · have HTT := Lib.hid htt
              clear htt
              go_wp2_with fail
              refine AnyK.start 10 (fun w' => w' = wr.drew) rfl rfl (fun _ => ?_)
              refine AnyK.take (oi := { dst := _, op := _, type := _, pos := _, after := _, guard := _ }) 0 ?_ rfl (by kernel_rfl) (fun _ _ _ h => h) (Or.inl ⟨by rfl, ?_⟩) rfl ?_
              rotate_left
              · (intro w' hS; subst hS; go_simp; with_reducible rfl)
              simp only [Act.put, List.setIfInBounds_toArray, List.set_cons_zero, List.set_cons_succ]
              refine AnyK.take (oi := { dst := _, op := _, type := _, pos := _, after := _, guard := _ }) 1 ?_ rfl (by kernel_rfl) (fun _ _ _ h => h) (Or.inl ⟨by rfl, ?_⟩) rfl ?_
              rotate_left
              · (intro w' hS; subst hS; go_simp; with_reducible rfl)
              simp only [Act.put, List.setIfInBounds_toArray, List.set_cons_zero, List.set_cons_succ]
              refine AnyK.take (oi := { dst := _, op := _, type := _, pos := _, after := _, guard := _ }) 2 ?_ rfl (by kernel_rfl) (fun _ _ _ h => h) (Or.inl ⟨by rfl, ?_⟩) rfl ?_
              rotate_left
              · (intro w' hS; subst hS; go_simp; with_reducible rfl)
              simp only [Act.put, List.setIfInBounds_toArray, List.set_cons_zero, List.set_cons_succ]
              refine AnyK.take (oi := { dst := _, op := _, type := _, pos := _, after := _, guard := _ }) 3 ?_ rfl (by kernel_rfl) (fun _ _ _ h => h) (Or.inl ⟨by rfl, ?_⟩) rfl ?_
              rotate_left
              · (intro w' hS; subst hS; go_simp; with_reducible rfl)
              simp only [Act.put, List.setIfInBounds_toArray, List.set_cons_zero, List.set_cons_succ]
              refine AnyK.take (oi := { dst := _, op := _, type := _, pos := _, after := _, guard := _ }) 4 ?_ rfl (by kernel_rfl) (fun _ _ _ h => h) (Or.inl ⟨by rfl, ?_⟩) rfl ?_
              rotate_left
              · (intro w' hS; subst hS; go_simp; with_reducible rfl)
              simp only [Act.put, List.setIfInBounds_toArray, List.set_cons_zero, List.set_cons_succ]
              refine AnyK.take (oi := { dst := _, op := _, type := _, pos := _, after := _, guard := _ }) 5 ?_ rfl (by kernel_rfl) (fun _ _ _ h => h) (Or.inl ⟨by rfl, ?_⟩) rfl ?_
              rotate_left
              · (intro w' hS; subst hS; go_simp; with_reducible rfl)
              simp only [Act.put, List.setIfInBounds_toArray, List.set_cons_zero, List.set_cons_succ]
              refine AnyK.take (oi := { dst := _, op := _, type := _, pos := _, after := _, guard := _ }) 6 ?_ rfl (by kernel_rfl) (fun _ _ _ h => h) (Or.inl ⟨by rfl, ?_⟩) rfl ?_
              rotate_left
              · (intro w' hS; subst hS; go_simp; with_reducible rfl)
              simp only [Act.put, List.setIfInBounds_toArray, List.set_cons_zero, List.set_cons_succ]
              refine AnyK.take (oi := { dst := _, op := _, type := _, pos := _, after := _, guard := _ }) 7 ?_ rfl (by kernel_rfl) (fun _ _ _ h => h) (Or.inl ⟨by rfl, ?_⟩) rfl ?_
              rotate_left
              · (intro w' hS; subst hS; go_simp; with_reducible rfl)
              simp only [Act.put, List.setIfInBounds_toArray, List.set_cons_zero, List.set_cons_succ]
              refine AnyK.take (oi := { dst := _, op := _, type := _, pos := _, after := _, guard := _ }) 8 ?_ rfl (by kernel_rfl) (fun _ _ _ h => h) (Or.inl ⟨by rfl, ?_⟩) rfl ?_
              rotate_left
              · (intro w' hS; subst hS; go_simp; with_reducible rfl)
              simp only [Act.put, List.setIfInBounds_toArray, List.set_cons_zero, List.set_cons_succ]
              refine AnyK.take (oi := { dst := _, op := _, type := _, pos := _, after := _, guard := _ }) 9 ?_ rfl (by kernel_rfl) (fun _ _ _ h => h) (Or.inl ⟨by rfl, ?_⟩) rfl ?_
              rotate_left
              · (intro w' hS; subst hS; go_simp; with_reducible rfl)
              simp only [Act.put, List.setIfInBounds_toArray, List.set_cons_zero, List.set_cons_succ]
              refine AnyK.late 10 (by kernel_rfl) (by kernel_rfl) rfl (fun KK hK => ?_)
              go_simp
              refine (ne_code lim wr.drew _ _ t t' (shCode.keep (W := wr) (W' := wr.drew) (fun _ _ => rfl) IA.out) (shCode.keep (W := wr) (W' := wr.drew) (fun _ _ => rfl) IB.out) (Nat.le_trans HL.out hsz) HTT.out).mono ?_
              rintro e W9 ⟨rfl, hb9⟩
              refine hK _ _ ?_
              clear hK
              refine AnyK.late 11 (by kernel_rfl) (by kernel_rfl) rfl (fun KK hK => ?_)
              go_simp
              refine hK _ _ ?_
              clear hK
              refine AnyK.done (by kernel_rfl) ?_ _
              have HB9 := Lib.hid (HB.out.drew.trans (hb9.mono hsz))
              clear hb9 d2 e2 m0 m1 m2 m3 m4 m5 n0 n1 n2 n3 n4 n5
              go_wp2_with fail
              go_returns
              exact ⟨rfl, HB9.out⟩
          · have hcs : x.codes = y.codes := all_one (F2.out.1.trans G2.out.1.symm) (fun j hj => HSM.out j (by have := F2.out.1; omega))
            have h9 := HTD.out
            have h10 := BD.out
            have h11 := BW.out
            exact absurd (tab_all h9 hcs h10 h11) HNE.out
      · have tw : (x.w != y.w) = true := by rw [bne_iff_ne]; exact bw
        clear bw
        go_wp2_with fail
        go_returns
        exact ⟨rfl, HB1.out⟩
    · have td : (x.d != y.d) = true := by rw [bne_iff_ne]; exact bd
      clear bd
      go_wp2_with fail
      go_returns
      exact ⟨rfl, HB1.out⟩
  · have HTD := Lib.hid htd
    clear htd hlq
    have hct := ne_tabs lim ((W.alloc (.cells #[.slice a0 l0 c0, .slice a1 l1 c1, .slice a2 l2 c2, .slice a3 l3 c3, .string x.globals, .slice a5 l5 c5, .slice a6 l6 c6, .slice a7 l7 c7, .slice a8 l8 c8, .slice a9 l9 c9, .int .i64 x.d, .int .i64 x.w] 29)).alloc (.cells #[.slice p0 q0 r0, .slice p1 q1 r1, .slice p2 q2 r2, .slice p3 q3 r3, .string y.globals, .slice p5 q5 r5, .slice p6 q6 r6, .slice p7 q7 r7, .slice p8 q8 r8, .slice p9 q9 r9, .int .i64 y.d, .int .i64 y.w] 29)) _ _ x y (shImg.keep (fun k hk => (HB0.out.mono HL.out).block k hk) hsh1.out) (shImg.keep (fun k hk => (HB0.out.mono HL.out).block k hk) hsh2.out) (Nat.le_trans HL.out HB0.out.size) HTD.out
    go_wp2_with (first | (refine wpList_load_row rfl 29 (.tmp 2) rfl W.heap.size rfl 29 #[.slice a0 l0 c0, .slice a1 l1 c1, .slice a2 l2 c2, .slice a3 l3 c3, .string x.globals, .slice a5 l5 c5, .slice a6 l6 c6, .slice a7 l7 c7, .slice a8 l8 c8, .slice a9 l9 c9, .int .i64 x.d, .int .i64 x.w] (0, 0) _ HX0.out Tryz.underlying29 rfl size29 ?_) | (refine wpList_load_row rfl 29 (.tmp 3) rfl (W.heap.size + 1) rfl 29 #[.slice p0 q0 r0, .slice p1 q1 r1, .slice p2 q2 r2, .slice p3 q3 r3, .string y.globals, .slice p5 q5 r5, .slice p6 q6 r6, .slice p7 q7 r7, .slice p8 q8 r8, .slice p9 q9 r9, .int .i64 y.d, .int .i64 y.w] (0, 0) _ HY0.out Tryz.underlying29 rfl size29 ?_) | (go_at_call 42; refine hct.mono ?_))
    rintro e W1 ⟨rfl, hb1⟩
    have HB1 := Lib.hid (HB0.out.trans (hb1.mono HB0.out.size))
    clear hb1 hct
    go_wp2_with fail
    go_returns
    exact ⟨rfl, HB1.out⟩
end Go.Proofs.YtoaohoeghlidaaaGreatDoor
