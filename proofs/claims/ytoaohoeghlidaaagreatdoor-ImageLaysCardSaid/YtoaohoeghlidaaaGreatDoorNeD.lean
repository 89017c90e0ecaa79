/-
  What is not one answers so: classes.
-/
import Derived.Test.YtoaohoeghlidaaaGreatDoorNeC
namespace Go.Proofs.YtoaohoeghlidaaaGreatDoor
open Go.ChangeShapes Go.WideShapes Go.ChangeAt Go.RowKit

theorem EqQ.two {f : Nat} {mk : List Value → Value} {T : Type} {sh : Sh T} (h : EqQ f mk sh) {lim : Nat} {W : World} {vs us : List Value} {x y : T} (h1 : sh.Is (fun k => k < lim) W vs x) (h2 : sh.Is (fun k => k < lim) W us y) (e : x = y) :
    Calls Tryz.prog f #[mk vs, mk us] W fun e W' => e = .returned (.bool true) ∧ ∃ n, W' = W.drewN n := by
  subst e; exact h lim W vs us x h1 h2
theorem EqT.two {f : Nat} {mk : List Value → Value} {T : Type} {sh : Sh T} (h : EqT f mk sh) {lim : Nat} {W : World} {vs us : List Value} {x y : T} (h1 : sh.Is (fun k => k < lim) W vs x) (h2 : sh.Is (fun k => k < lim) W us y) (hl : lim ≤ W.heap.size) (e : x = y) :
    Calls Tryz.prog f #[mk vs, mk us] W fun e W' => e = .returned (.bool true) ∧ Below W.heap.size W W' := by
  subst e; exact h lim W vs us x h1 h2 hl

set_option maxHeartbeats 6400000 in
set_option maxRecDepth 100000 in
theorem ne_desc : NeT 76 mkA shDesc := by
  intro lim W vs us x y h1 h2 hl hne
  obtain ⟨a2, l2, c2, a3, l3, c3, a4, l4, c4, a5, l5, c5, rfl, f2, f3, f4, f5⟩ := desc_is.1 h1
  obtain ⟨p2, q2, r2, p3, q3, r3, p4, q4, r4, p5, q5, r5, rfl, g2, g3, g4, g5⟩ := desc_is.1 h2
  have hbx : ((W.alloc (.cells #[.int .i64 x.base, .string x.fields, .slice a2 l2 c2, .slice a3 l3 c3, .slice a4 l4 c4, .slice a5 l5 c5] 56)).alloc (.cells #[.int .i64 y.base, .string y.fields, .slice p2 q2 r2, .slice p3 q3 r3, .slice p4 q4 r4, .slice p5 q5 r5] 56)).heap[W.heap.size]? = some (.cells #[.int .i64 x.base, .string x.fields, .slice a2 l2 c2, .slice a3 l3 c3, .slice a4 l4 c4, .slice a5 l5 c5] 56 (0, 0)) := (Below.heap_alloc _ _ _ (by simp)).trans (heap_alloc_new W _)
  have hby : ((W.alloc (.cells #[.int .i64 x.base, .string x.fields, .slice a2 l2 c2, .slice a3 l3 c3, .slice a4 l4 c4, .slice a5 l5 c5] 56)).alloc (.cells #[.int .i64 y.base, .string y.fields, .slice p2 q2 r2, .slice p3 q3 r3, .slice p4 q4 r4, .slice p5 q5 r5] 56)).heap[W.heap.size + 1]? = some (.cells #[.int .i64 y.base, .string y.fields, .slice p2 q2 r2, .slice p3 q3 r3, .slice p4 q4 r4, .slice p5 q5 r5] 56 (0, 0)) := by
    have := heap_alloc_new (W.alloc (.cells #[.int .i64 x.base, .string x.fields, .slice a2 l2 c2, .slice a3 l3 c3, .slice a4 l4 c4, .slice a5 l5 c5] 56)) (.cells #[.int .i64 y.base, .string y.fields, .slice p2 q2 r2, .slice p3 q3 r3, .slice p4 q4 r4, .slice p5 q5 r5] 56)
    rw [show (W.alloc (.cells #[.int .i64 x.base, .string x.fields, .slice a2 l2 c2, .slice a3 l3 c3, .slice a4 l4 c4, .slice a5 l5 c5] 56)).heap.size = W.heap.size + 1 by simp] at this
    exact this
  have HB0 := Lib.hid (((Below.refl W.heap.size W).alloc (Nat.le_refl _) (.cells #[.int .i64 x.base, .string x.fields, .slice a2 l2 c2, .slice a3 l3 c3, .slice a4 l4 c4, .slice a5 l5 c5] 56)).alloc (by simp) (.cells #[.int .i64 y.base, .string y.fields, .slice p2 q2 r2, .slice p3 q3 r3, .slice p4 q4 r4, .slice p5 q5 r5] 56))
  have hml : l5 ≤ 9223372036854775807 := by have := f5.le; unfold maxLen at this; omega
  have F2 := Lib.hid f2
  have F3 := Lib.hid f3
  have F4 := Lib.hid f4
  have F5 := Lib.hid f5
  have G2 := Lib.hid g2
  have G3 := Lib.hid g3
  have G4 := Lib.hid g4
  have G5 := Lib.hid g5
  have HX0 := Lib.hid hbx
  have HY0 := Lib.hid hby
  have HL := Lib.hid hl
  have HNE := Lib.hid hne
  clear h1 h2 f2 f3 f4 f5 g2 g3 g4 g5 hl hbx hby hne
  show Calls Tryz.prog 76 #[.agg #[.int .i64 x.base, .string x.fields, .slice a2 l2 c2, .slice a3 l3 c3, .slice a4 l4 c4, .slice a5 l5 c5], .agg #[.int .i64 y.base, .string y.fields, .slice p2 q2 r2, .slice p3 q3 r3, .slice p4 q4 r4, .slice p5 q5 r5]] W _
  go_enter Tryz.func76, Tryz.ntmps76
  by_cases bbase : x.base = y.base
  · have tbase : (x.base != y.base) = false := by rw [bbase]; simp
    have Bbase := Lib.hid bbase
    clear bbase
    by_cases bfields : x.fields = y.fields
    · have tfields : (x.fields.toList == y.fields.toList) = true := by rw [bfields]; simp
      have Bfields := Lib.hid bfields
      clear bfields
      by_cases binit : x.init = y.init
      · have Binit := Lib.hid binit
        go_wp2_with (go_at_call 73; refine (eq_ints.two (lim := lim) (x := x.init) (y := y.init) ⟨a2, l2, c2, rfl, row_lim F2.out (HB0.out.mono HL.out)⟩ ⟨p2, q2, r2, rfl, row_lim G2.out (HB0.out.mono HL.out)⟩ Binit.out).mono ?_)
        rintro e W1 ⟨rfl, m1, hW1⟩
        clear binit
        have HX1 := Lib.hid (show W1.heap[W.heap.size]? = some (.cells #[.int .i64 x.base, .string x.fields, .slice a2 l2 c2, .slice a3 l3 c3, .slice a4 l4 c4, .slice a5 l5 c5] 56 (0, 0)) by rw [hW1]; exact HX0.out)
        have HY1 := Lib.hid (show W1.heap[W.heap.size + 1]? = some (.cells #[.int .i64 y.base, .string y.fields, .slice p2 q2 r2, .slice p3 q3 r3, .slice p4 q4 r4, .slice p5 q5 r5] 56 (0, 0)) by rw [hW1]; exact HY0.out)
        have HB1 := Lib.hid (show Below W.heap.size W W1 by rw [hW1]; exact below_drew HB0.out _)
        clear hW1
        have d3 : W1.cell? ⟨W.heap.size, 3, none⟩ = some (.slice a3 l3 c3) := by rw [Lib.cell_of_heap HX1.out]; rfl
        have e3 : W1.cell? ⟨W.heap.size + 1, 3, none⟩ = some (.slice p3 q3 r3) := by rw [Lib.cell_of_heap HY1.out]; rfl
        by_cases bvtable : x.vtable = y.vtable
        · have Bvtable := Lib.hid bvtable
          go_wp2_with (go_at_call 73; refine (eq_ints.two (lim := lim) (x := x.vtable) (y := y.vtable) ⟨a3, l3, c3, rfl, row_lim F3.out (HB1.out.mono HL.out)⟩ ⟨p3, q3, r3, rfl, row_lim G3.out (HB1.out.mono HL.out)⟩ Bvtable.out).mono ?_)
          rintro e W2 ⟨rfl, m2, hW2⟩
          clear d3 e3
          clear bvtable
          have HX2 := Lib.hid (show W2.heap[W.heap.size]? = some (.cells #[.int .i64 x.base, .string x.fields, .slice a2 l2 c2, .slice a3 l3 c3, .slice a4 l4 c4, .slice a5 l5 c5] 56 (0, 0)) by rw [hW2]; exact HX1.out)
          have HY2 := Lib.hid (show W2.heap[W.heap.size + 1]? = some (.cells #[.int .i64 y.base, .string y.fields, .slice p2 q2 r2, .slice p3 q3 r3, .slice p4 q4 r4, .slice p5 q5 r5] 56 (0, 0)) by rw [hW2]; exact HY1.out)
          have HB2 := Lib.hid (show Below W.heap.size W W2 by rw [hW2]; exact below_drew HB1.out _)
          clear hW2
          have d4 : W2.cell? ⟨W.heap.size, 4, none⟩ = some (.slice a4 l4 c4) := by rw [Lib.cell_of_heap HX2.out]; rfl
          have e4 : W2.cell? ⟨W.heap.size + 1, 4, none⟩ = some (.slice p4 q4 r4) := by rw [Lib.cell_of_heap HY2.out]; rfl
          by_cases bsigs : x.sigs = y.sigs
          · have Bsigs := Lib.hid bsigs
            go_wp2_with (go_at_call 75; refine (eq_texts.two (lim := lim) (x := x.sigs) (y := y.sigs) ⟨a4, l4, c4, rfl, row_lim F4.out (HB2.out.mono HL.out)⟩ ⟨p4, q4, r4, rfl, row_lim G4.out (HB2.out.mono HL.out)⟩ Bsigs.out).mono ?_)
            rintro e W3 ⟨rfl, m3, hW3⟩
            clear d4 e4
            clear bsigs
            have HX3 := Lib.hid (show W3.heap[W.heap.size]? = some (.cells #[.int .i64 x.base, .string x.fields, .slice a2 l2 c2, .slice a3 l3 c3, .slice a4 l4 c4, .slice a5 l5 c5] 56 (0, 0)) by rw [hW3]; exact HX2.out)
            have HY3 := Lib.hid (show W3.heap[W.heap.size + 1]? = some (.cells #[.int .i64 y.base, .string y.fields, .slice p2 q2 r2, .slice p3 q3 r3, .slice p4 q4 r4, .slice p5 q5 r5] 56 (0, 0)) by rw [hW3]; exact HY2.out)
            have HB3 := Lib.hid (show Below W.heap.size W W3 by rw [hW3]; exact below_drew HB2.out _)
            clear hW3
            have d5 : W3.cell? ⟨W.heap.size, 5, none⟩ = some (.slice a5 l5 c5) := by rw [Lib.cell_of_heap HX3.out]; rfl
            have e5 : W3.cell? ⟨W.heap.size + 1, 5, none⟩ = some (.slice p5 q5 r5) := by rw [Lib.cell_of_heap HY3.out]; rfl
            have hbt : x.tables ≠ y.tables := by
              intro h
              apply HNE.out
              have b0 := Bbase.out
              have b1 := Bfields.out
              have b2 := Binit.out
              have b3 := Bvtable.out
              have b4 := Bsigs.out
              cases x
              cases y
              simp at *
              exact ⟨b0, b1, b2, b3, b4, h⟩
            have HBT := Lib.hid hbt
            clear hbt
            by_cases hnl : ¬ l5 = q5
            · have hl2 : ((l5 : Int) != (q5 : Int)) = true := by simp; omega
              go_wp2_with fail
              go_returns
              exact ⟨rfl, HB3.out⟩
            have hq5 := Decidable.not_not.1 hnl
            clear hnl
            have e5' : W3.cell? ⟨W.heap.size + 1, 5, none⟩ = some (.slice p5 l5 r5) := by rw [hq5]; exact e5
            have G5' : Hid (Row shTable (fun k => k < lim) W p5 l5 y.tables) := Lib.hid (by rw [hq5]; exact G5.out)
            clear e5
            have e5 := e5'
            clear e5'
            have hlA := F5.out.1
            have hlB := G5'.out.1
            have hll : ((l5 : Int) != (l5 : Int)) = false := by simp
            go_wp2_with fail
            go_loopw [5] (fun i wr => ∃ k m : Nat, k ≤ l5 ∧ i = .int .i64 k ∧ wr = W3.drewN m ∧ (∀ j, j < k → x.tables[j]? = y.tables[j]?)) (fun i _ => l5 - (intOf i).toNat)
            case atStart => exact ⟨0, 0, Nat.zero_le _, rfl, rfl, fun j hj => absurd hj (Nat.not_lt_zero j)⟩
            case round =>
              obtain ⟨k, m, hk, rfl, hwr, hsame⟩ := hrel
              have HWR := Lib.hid hwr
              have HSM := Lib.hid hsame
              clear hsame
              have hB := below_drew HB3.out m
              rw [← hwr] at hB
              have HBF := Lib.hid hB
              have d5 : wr.cell? ⟨W.heap.size, 5, none⟩ = some (.slice a5 l5 c5) := by rw [hwr]; exact d5
              have e5 : wr.cell? ⟨W.heap.size + 1, 5, none⟩ = some (.slice p5 l5 r5) := by rw [hwr]; exact e5
              by_cases hlt : k < l5
              · obtain ⟨ba, oa, t, vs, rfl, _, hx, hba, iA⟩ := (row_lim F5.out (hB.mono HL.out)).item hlt
                obtain ⟨bb, ob, t', us, rfl, _, hx', hbb, iB⟩ := (row_lim G5'.out (hB.mono HL.out)).item hlt
                have i0 : (k : Int) < (l5 : Int) := by omega
                have i1 : (0 : Int) ≤ (k : Int) := by omega
                obtain ⟨u1, v1, w1, rfl, rA⟩ := table_is.1 iA
                obtain ⟨u2, v2, w2, rfl, rB⟩ := table_is.1 iB
                have x0 : wr.cell? ⟨ba, oa + k * 2, none⟩ = some (.int .i64 t.face) := hba 0 _ rfl
                have x1 : wr.cell? ⟨ba, oa + k * 2 + 1, none⟩ = some (.slice u1 v1 w1) := hba 1 _ rfl
                have y0 : wr.cell? ⟨bb, ob + k * 2, none⟩ = some (.int .i64 t'.face) := hbb 0 _ rfl
                have y1 : wr.cell? ⟨bb, ob + k * 2 + 1, none⟩ = some (.slice u2 v2 w2) := hbb 1 _ rfl
                have HXX := Lib.hid hx
                have HXY := Lib.hid hx'
                by_cases bf : t.face = t'.face
                · have tf : (t.face != t'.face) = false := by rw [bf]; simp
                  by_cases bs : t.slots = t'.slots
                  · have hq : ∀ m, Calls Tryz.prog 73 #[.slice u1 v1 w1, .slice u2 v2 w2] (wr.drewN m) fun e W' => e = .returned (.bool true) ∧ ∃ n, W' = wr.drewN n := fun m => eq_ints.quiet (lim := lim) (vs := [.slice u1 v1 w1]) (us := [.slice u2 v2 w2]) ⟨u1, v1, w1, rfl, rA⟩ ⟨u2, v2, w2, rfl, by rw [bs]; exact rB⟩ m
                    have HQ := Lib.hid hq
                    have HTT := Lib.hid (show t = t' by cases t; cases t'; simp at bf bs; subst bf; subst bs; rfl)
                    clear hba hbb hx hx' iA iB rA rB hwr hB hq bf bs
                    go_wp2_with fail
                    go_quiet (exact HQ.out _)
                    go_wp2_with fail
                    refine ⟨⟨k + 1, m + nq, ?_, ?_, ?_, ?_⟩, ?_⟩
                    · omega
                    · go_num
                    · rw [HWR.out, World.drewN_drewN]
                    · intro j hj
                      rcases Nat.lt_or_ge j k with h | h
                      · exact HSM.out j h
                      · rw [show j = k by omega, HXX.out, HXY.out, HTT.out]
                    · simp [intOf]; omega
                  · have hq : ∀ m, Calls Tryz.prog 73 #[.slice u1 v1 w1, .slice u2 v2 w2] (wr.drewN m) fun e W' => e = .returned (.bool false) ∧ ∃ n, W' = wr.drewN n := fun m => ne_ints.quiet (lim := lim) (lim' := lim) (vs := [.slice u1 v1 w1]) (us := [.slice u2 v2 w2]) ⟨u1, v1, w1, rfl, rA⟩ ⟨u2, v2, w2, rfl, rB⟩ bs m
                    have HQ := Lib.hid hq
                    clear hba hbb hx hx' iA iB rA rB hwr hB hq bf bs
                    go_wp2_with fail
                    go_quiet (exact HQ.out _)
                    go_wp2_with fail
                    go_returns
                    exact ⟨rfl, below_drew HBF.out _⟩
                · have tf : (t.face != t'.face) = true := by rw [bne_iff_ne]; exact bf
                  clear hba hbb hx hx' iA iB rA rB hwr hB bf
                  go_wp2_with fail
                  go_quiet (fail)
                  go_wp2_with fail
                  go_returns
                  exact ⟨rfl, below_drew HBF.out _⟩
              · exact absurd (all_one (hlA.trans hlB.symm) (fun j hj => HSM.out j (by omega))) HBT.out
          · have Bsigs := Lib.hid bsigs
            clear bsigs
            go_wp2_with (go_at_call 75; refine (ne_texts lim lim _ _ _ x.sigs y.sigs ⟨a4, l4, c4, rfl, row_lim F4.out (HB2.out.mono HL.out)⟩ ⟨p4, q4, r4, rfl, row_lim G4.out (HB2.out.mono HL.out)⟩ Bsigs.out).mono ?_)
            rintro e W3 ⟨rfl, m3, hW3⟩
            clear d4 e4
            have HX3 := Lib.hid (show W3.heap[W.heap.size]? = some (.cells #[.int .i64 x.base, .string x.fields, .slice a2 l2 c2, .slice a3 l3 c3, .slice a4 l4 c4, .slice a5 l5 c5] 56 (0, 0)) by rw [hW3]; exact HX2.out)
            have HY3 := Lib.hid (show W3.heap[W.heap.size + 1]? = some (.cells #[.int .i64 y.base, .string y.fields, .slice p2 q2 r2, .slice p3 q3 r3, .slice p4 q4 r4, .slice p5 q5 r5] 56 (0, 0)) by rw [hW3]; exact HY2.out)
            have HB3 := Lib.hid (show Below W.heap.size W W3 by rw [hW3]; exact below_drew HB2.out _)
            clear hW3
            go_wp2_with fail
            go_returns
            exact ⟨rfl, HB3.out⟩
        · have Bvtable := Lib.hid bvtable
          clear bvtable
          go_wp2_with (go_at_call 73; refine (ne_ints lim lim _ _ _ x.vtable y.vtable ⟨a3, l3, c3, rfl, row_lim F3.out (HB1.out.mono HL.out)⟩ ⟨p3, q3, r3, rfl, row_lim G3.out (HB1.out.mono HL.out)⟩ Bvtable.out).mono ?_)
          rintro e W2 ⟨rfl, m2, hW2⟩
          clear d3 e3
          have HX2 := Lib.hid (show W2.heap[W.heap.size]? = some (.cells #[.int .i64 x.base, .string x.fields, .slice a2 l2 c2, .slice a3 l3 c3, .slice a4 l4 c4, .slice a5 l5 c5] 56 (0, 0)) by rw [hW2]; exact HX1.out)
          have HY2 := Lib.hid (show W2.heap[W.heap.size + 1]? = some (.cells #[.int .i64 y.base, .string y.fields, .slice p2 q2 r2, .slice p3 q3 r3, .slice p4 q4 r4, .slice p5 q5 r5] 56 (0, 0)) by rw [hW2]; exact HY1.out)
          have HB2 := Lib.hid (show Below W.heap.size W W2 by rw [hW2]; exact below_drew HB1.out _)
          clear hW2
          go_wp2_with fail
          go_returns
          exact ⟨rfl, HB2.out⟩
      · have Binit := Lib.hid binit
        clear binit
        go_wp2_with (go_at_call 73; refine (ne_ints lim lim _ _ _ x.init y.init ⟨a2, l2, c2, rfl, row_lim F2.out (HB0.out.mono HL.out)⟩ ⟨p2, q2, r2, rfl, row_lim G2.out (HB0.out.mono HL.out)⟩ Binit.out).mono ?_)
        rintro e W1 ⟨rfl, m1, hW1⟩
        have HX1 := Lib.hid (show W1.heap[W.heap.size]? = some (.cells #[.int .i64 x.base, .string x.fields, .slice a2 l2 c2, .slice a3 l3 c3, .slice a4 l4 c4, .slice a5 l5 c5] 56 (0, 0)) by rw [hW1]; exact HX0.out)
        have HY1 := Lib.hid (show W1.heap[W.heap.size + 1]? = some (.cells #[.int .i64 y.base, .string y.fields, .slice p2 q2 r2, .slice p3 q3 r3, .slice p4 q4 r4, .slice p5 q5 r5] 56 (0, 0)) by rw [hW1]; exact HY0.out)
        have HB1 := Lib.hid (show Below W.heap.size W W1 by rw [hW1]; exact below_drew HB0.out _)
        clear hW1
        go_wp2_with fail
        go_returns
        exact ⟨rfl, HB1.out⟩
    · have tfields : (x.fields.toList == y.fields.toList) = false := str_ne bfields
      clear bfields
      go_wp2_with fail
      go_returns
      exact ⟨rfl, HB0.out⟩
  · have tbase : (x.base != y.base) = true := by rw [bne_iff_ne]; exact bbase
    clear bbase
    go_wp2_with fail
    go_returns
    exact ⟨rfl, HB0.out⟩
end Go.Proofs.YtoaohoeghlidaaaGreatDoor
