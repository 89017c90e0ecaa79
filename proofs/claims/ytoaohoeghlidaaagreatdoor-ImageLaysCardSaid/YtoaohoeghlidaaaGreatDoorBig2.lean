/-
  Whether an image is great: what is not great is small.
-/
import Derived.Test.YtoaohoeghlidaaaGreatDoorBig
namespace Go.Proofs.YtoaohoeghlidaaaGreatDoor
open Go.ChangeShapes Go.WideShapes Go.ChangeAt Go.RowKit

def SmallI (x : ImgD) : Prop := ((x.faces.length : Int) ≤ 40 ∧ (x.classes.length : Int) ≤ 40 ∧ (x.codes.length : Int) ≤ 40 ∧ (x.insts.length : Int) ≤ 40 ∧ (x.init.length : Int) ≤ 40 ∧ (x.blocks.length : Int) ≤ 40 ∧ (x.ins.length : Int) ≤ 40 ∧ (x.outs.length : Int) ≤ 40 ∧ (x.jobs.length : Int) ≤ 40) ∧ (x.globals.size : Int) ≤ 60
  ∧ (∀ (j : Nat) (t : List ByteArray), x.faces[j]? = some t → SmallT 20 60 t) ∧ (∀ (j : Nat) (t : DescD), x.classes[j]? = some t → SmallD t) ∧ (∀ (j : Nat) (t : CodeD), x.codes[j]? = some t → SmallC t)
/-- what GreatImage answers -/
inductive GPost (x : ImgD) (W W' : World) (e : Ending) : Prop
  | mk (β : Bool) (h1 : e = .returned (.bool β)) (h2 : β = false → SmallI x) (h3 : Below W.heap.size W W') : GPost x W W' e
theorem max3_le (a b c : Int) : ∃ M : Int, (∀ (ts : Array TypeId) (t : TypeId) (w : World), (Builtin.max_ ts t #[.int .i64 a, .int .i64 b, .int .i64 c]).run Tryz.prog w = .ok (.int .i64 M) w) ∧ a ≤ M ∧ b ≤ M ∧ c ≤ M := by
  refine ⟨mx2 (mx2 a b) c, fun ts t w => ?_, ?_⟩
  · simp only [Builtin.max_, List.foldlM_cons, List.foldlM_nil, Builtin.max2, Sem.run_bind, Sem.run_pure, Result.andThen_ok]
    rfl
  · have h1 := mx2_le a b
    have h2 := mx2_le (mx2 a b) c
    omega
theorem max2_le (a b : Int) : ∃ M : Int, (∀ (ts : Array TypeId) (t : TypeId) (w : World), (Builtin.max_ ts t #[.int .i64 a, .int .i64 b]).run Tryz.prog w = .ok (.int .i64 M) w) ∧ a ≤ M ∧ b ≤ M := by
  refine ⟨mx2 a b, fun ts t w => ?_, mx2_le a b⟩
  simp only [Builtin.max_, List.foldlM_cons, List.foldlM_nil, Builtin.max2, Sem.run_bind, Sem.run_pure, Result.andThen_ok]
  rfl

set_option maxHeartbeats 6400000 in
set_option maxRecDepth 100000 in
theorem great_small (lim : Nat) (W : World) (vs : List Value) (x : ImgD) (h : shImg.Is (fun k => k < lim) W vs x) (hl : lim ≤ W.heap.size) :
    Calls Tryz.prog 7 #[.agg vs.toArray] W fun e W' => GPost x W W' e := by
  obtain ⟨a0, l0, c0, a1, l1, c1, a2, l2, c2, a3, l3, c3, a5, l5, c5, a6, l6, c6, a7, l7, c7, a8, l8, c8, a9, l9, c9, rfl, f0, f1, f2, f3, f5, f6, f7, f8, f9⟩ := img_is.1 h
  have HX0 := Lib.hid (show (W.alloc (.cells #[.slice a0 l0 c0, .slice a1 l1 c1, .slice a2 l2 c2, .slice a3 l3 c3, .string x.globals, .slice a5 l5 c5, .slice a6 l6 c6, .slice a7 l7 c7, .slice a8 l8 c8, .slice a9 l9 c9, .int .i64 x.d, .int .i64 x.w] 29)).heap[W.heap.size]? = some (.cells #[.slice a0 l0 c0, .slice a1 l1 c1, .slice a2 l2 c2, .slice a3 l3 c3, .string x.globals, .slice a5 l5 c5, .slice a6 l6 c6, .slice a7 l7 c7, .slice a8 l8 c8, .slice a9 l9 c9, .int .i64 x.d, .int .i64 x.w] 29 (0, 0)) from heap_alloc_new W _)
  have HB0 := Lib.hid ((Below.refl W.heap.size W).alloc (Nat.le_refl _) (.cells #[.slice a0 l0 c0, .slice a1 l1 c1, .slice a2 l2 c2, .slice a3 l3 c3, .string x.globals, .slice a5 l5 c5, .slice a6 l6 c6, .slice a7 l7 c7, .slice a8 l8 c8, .slice a9 l9 c9, .int .i64 x.d, .int .i64 x.w] 29))
  have HL := Lib.hid hl
  obtain ⟨M, hM, q0, q1, q2, q3, q5, q6, q7, q8, q9⟩ := max9_le l0 l1 l2 l3 l5 l6 l7 l8 l9
  have hm0 : l0 ≤ 9223372036854775807 := by have := f0.le; unfold maxLen at this; omega
  have hm1 : l1 ≤ 9223372036854775807 := by have := f1.le; unfold maxLen at this; omega
  have hm2 : l2 ≤ 9223372036854775807 := by have := f2.le; unfold maxLen at this; omega
  have F0 := Lib.hid f0
  have F1 := Lib.hid f1
  have F2 := Lib.hid f2
  have F3 := Lib.hid f3
  have F5 := Lib.hid f5
  have F6 := Lib.hid f6
  have F7 := Lib.hid f7
  have F8 := Lib.hid f8
  have F9 := Lib.hid f9
  have HLS := Lib.hid (show M ≤ 40 → (x.faces.length : Int) ≤ 40 ∧ (x.classes.length : Int) ≤ 40 ∧ (x.codes.length : Int) ≤ 40 ∧ (x.insts.length : Int) ≤ 40 ∧ (x.init.length : Int) ≤ 40 ∧ (x.blocks.length : Int) ≤ 40 ∧ (x.ins.length : Int) ≤ 40 ∧ (x.outs.length : Int) ≤ 40 ∧ (x.jobs.length : Int) ≤ 40 from fun hM => by rw [f0.1, f1.1, f2.1, f3.1, f5.1, f6.1, f7.1, f8.1, f9.1]; omega)
  clear h hl f0 f1 f2 f3 f5 f6 f7 f8 f9 q0 q1 q2 q3 q5 q6 q7 q8 q9
  show Calls Tryz.prog 7 #[.agg #[.slice a0 l0 c0, .slice a1 l1 c1, .slice a2 l2 c2, .slice a3 l3 c3, .string x.globals, .slice a5 l5 c5, .slice a6 l6 c6, .slice a7 l7 c7, .slice a8 l8 c8, .slice a9 l9 c9, .int .i64 x.d, .int .i64 x.w]] W _
  cases h40 : decide ((40 : Int) < M) with
  | true =>
    go_enter Tryz.func7, Tryz.ntmps7
    go_wp2_with fail
    go_returns
    exact ⟨_, rfl, (fun h => by cases h), HB0.out⟩
  | false =>
  cases h60 : decide ((60 : Int) < (x.globals.size : Int)) with
  | true =>
    go_enter Tryz.func7, Tryz.ntmps7
    go_wp2_with fail
    go_returns
    exact ⟨_, rfl, (fun h => by cases h), HB0.out⟩
  | false =>
  go_enter Tryz.func7, Tryz.ntmps7
  go_wp2_with fail
  have HLN := Lib.hid (HLS.out (by have := of_decide_eq_false h40; omega))
  have HGL := Lib.hid (show (x.globals.size : Int) ≤ 60 by have := of_decide_eq_false h60; omega)
  clear hM h40 h60 HLS
  generalize hV : (W.alloc (.cells #[.slice a0 l0 c0, .slice a1 l1 c1, .slice a2 l2 c2, .slice a3 l3 c3, .string x.globals, .slice a5 l5 c5, .slice a6 l6 c6, .slice a7 l7 c7, .slice a8 l8 c8, .slice a9 l9 c9, .int .i64 x.d, .int .i64 x.w] 29)) = V at *
  clear hV
  go_loopw [3] (fun i wr => ∃ k : Nat, k ≤ l0 ∧ i = .int .i64 k ∧ wr = V ∧ ∀ (j : Nat) (t : List ByteArray), j < k → x.faces[j]? = some t → SmallT 20 60 t) (fun i _ => l0 - (intOf i).toNat)
  case atStart => exact ⟨0, Nat.zero_le _, rfl, rfl, fun j _ hj => absurd hj (Nat.not_lt_zero j)⟩
  case round =>
    obtain ⟨k, hk, rfl, rfl, hall⟩ := hrel
    have HALL := Lib.hid hall
    clear hall
    have d0 : wr.cell? ⟨W.heap.size, 0, none⟩ = some (.slice a0 l0 c0) := by rw [Lib.cell_of_heap (HX0.out)]; rfl
    by_cases hlt : k < l0
    · obtain ⟨bb, o, t, vs, rfl, _, hx, hb, hI⟩ := (row_lim F0.out (HB0.out.mono HL.out)).item hlt
      obtain ⟨u1, v1, w1, rfl, rA⟩ := slice_is.1 hI
      have i0 : (k : Int) < (l0 : Int) := by omega
      have i1 : (0 : Int) ≤ (k : Int) := by omega
      have e0 : wr.cell? ⟨bb, o + k, none⟩ = some (.slice u1 v1 w1) := by have := hb 0 _ rfl; rw [show o + k * shTexts.n + 0 = o + k by show o + k * 1 + 0 = _; omega] at this; exact this
      have hc := texts_small 20 60 u1 v1 w1 t _ wr rA
      have HX := Lib.hid hx
      clear hx hb hI rA
      go_wp2_with (go_at_call 20; refine hc.mono ?_)
      rintro e W9 ⟨β, rfl, rfl, hsm⟩
      have HSM := Lib.hid hsm
      clear hc hsm
      cases β with
      | true =>
        go_wp2_with fail
        go_returns
        exact ⟨_, rfl, (fun h => by cases h), HB0.out⟩
      | false =>
        go_wp2_with fail
        refine ⟨⟨k + 1, by omega, by go_num, trivial, fun j t' hj ht => ?_⟩, by simp [intOf]; omega⟩
        rcases Nat.lt_or_ge j k with h | h
        · exact HALL.out j t' h ht
        · rw [show j = k by omega, HX.out] at ht
          cases ht
          exact HSM.out (by trivial)
    · have HFA := Lib.hid (show ∀ (j : Nat) (t : List ByteArray), x.faces[j]? = some t → SmallT 20 60 t from fun j t ht => HALL.out j t (by have := (List.getElem?_eq_some_iff.1 ht).1; rw [F0.out.1] at this; omega) ht)
      clear HALL
      obtain rfl : l0 = k := by omega
      go_wp2_with fail
      clear d0
      generalize wr = V at *
      go_loopw [4] (fun i wr => ∃ k : Nat, k ≤ l1 ∧ i = .int .i64 k ∧ wr.heap[W.heap.size]? = some (.cells #[.slice a0 l0 c0, .slice a1 l1 c1, .slice a2 l2 c2, .slice a3 l3 c3, .string x.globals, .slice a5 l5 c5, .slice a6 l6 c6, .slice a7 l7 c7, .slice a8 l8 c8, .slice a9 l9 c9, .int .i64 x.d, .int .i64 x.w] 29 (0, 0)) ∧ Below W.heap.size W wr ∧ ∀ (j : Nat) (t : DescD), j < k → x.classes[j]? = some t → SmallD t) (fun i _ => l1 - (intOf i).toNat)
      case atStart => exact ⟨0, Nat.zero_le _, rfl, HX0.out, HB0.out, fun j _ hj => absurd hj (Nat.not_lt_zero j)⟩
      case round =>
        clear HX0 HB0
        obtain ⟨k, hk, rfl, hX, hB, hall⟩ := hrel
        have HALL := Lib.hid hall
        clear hall
        have d1 : wr.cell? ⟨W.heap.size, 1, none⟩ = some (.slice a1 l1 c1) := by rw [Lib.cell_of_heap (hX)]; rfl
        have HX := Lib.hid hX
        have HB := Lib.hid hB
        by_cases hlt : k < l1
        · obtain ⟨ba, oa, t, vs, rfl, _, hx, hba, iA⟩ := (row_lim F1.out (hB.mono HL.out)).item hlt
          have i0 : (k : Int) < (l1 : Int) := by omega
          have i1 : (0 : Int) ≤ (k : Int) := by omega
          obtain ⟨z2, y2, x2, z3, y3, x3, z4, y4, x4, z5, y5, x5, rfl, t2, t3, t4, t5⟩ := desc_is.1 iA
          have m0 := hba 0 _ rfl
          have m1 := hba 1 _ rfl
          have m2 := hba 2 _ rfl
          have m3 := hba 3 _ rfl
          have m4 := hba 4 _ rfl
          have m5 := hba 5 _ rfl
          rw [show oa + k * shDesc.n + 0 = oa + k * 6 from rfl] at m0
          simp only [show shDesc.n = 6 from rfl] at m1 m2 m3 m4 m5
          have hsz := hB.size
          have hyl : y5 ≤ 9223372036854775807 := by have := t5.le; unfold maxLen at this; omega
          have hX2 := (Below.heap_alloc wr (.cells #[.int .i64 t.base, .string t.fields, .slice z2 y2 x2, .slice z3 y3 x3, .slice z4 y4 x4, .slice z5 y5 x5] 56) _ (heap_lt hX)).trans hX
          have hD2 := heap_alloc_new wr (.cells #[.int .i64 t.base, .string t.fields, .slice z2 y2 x2, .slice z3 y3 x3, .slice z4 y4 x4, .slice z5 y5 x5] 56)
          have hB2 := hB.alloc hsz (.cells #[.int .i64 t.base, .string t.fields, .slice z2 y2 x2, .slice z3 y3 x3, .slice z4 y4 x4, .slice z5 y5 x5] 56)
          have hwl : Below lim wr (wr.alloc (.cells #[.int .i64 t.base, .string t.fields, .slice z2 y2 x2, .slice z3 y3 x3, .slice z4 y4 x4, .slice z5 y5 x5] 56)) := (Below.refl lim wr).alloc (Nat.le_trans HL.out hsz) _
          have t4' := row_lim t4 hwl
          have t5' := row_lim t5 hwl
          have hqq : wr.heap.size ≠ W.heap.size := by have := heap_lt hX; omega
          obtain ⟨W2, hW2⟩ : ∃ W2, wr.alloc (.cells #[.int .i64 t.base, .string t.fields, .slice z2 y2 x2, .slice z3 y3 x3, .slice z4 y4 x4, .slice z5 y5 x5] 56) = W2 := ⟨_, rfl⟩
          rw [hW2] at hX2 hD2 hB2 t4' t5'
          have HX2 := Lib.hid hX2
          have HB2 := Lib.hid hB2
          have HD2 := Lib.hid hD2
          have T5 := Lib.hid t5'
          have hc := texts_small 40 60 z4 y4 x4 t.sigs _ W2 t4'
          have HXD := Lib.hid hx
          have HY2 := Lib.hid t2.1
          have HY3 := Lib.hid t3.1
          have HY5 := Lib.hid t5.1
          have q1 : W2.cell? ⟨wr.heap.size, 1, none⟩ = some (.string t.fields) := by rw [Lib.cell_of_heap hD2]; rfl
          have q2 : W2.cell? ⟨wr.heap.size, 2, none⟩ = some (.slice z2 y2 x2) := by rw [Lib.cell_of_heap hD2]; rfl
          have q3 : W2.cell? ⟨wr.heap.size, 3, none⟩ = some (.slice z3 y3 x3) := by rw [Lib.cell_of_heap hD2]; rfl
          have q4 : W2.cell? ⟨wr.heap.size, 4, none⟩ = some (.slice z4 y4 x4) := by rw [Lib.cell_of_heap hD2]; rfl
          have q5 : W2.cell? ⟨wr.heap.size, 5, none⟩ = some (.slice z5 y5 x5) := by rw [Lib.cell_of_heap hD2]; rfl
          clear hba hx iA hX hB t2 t3 t4 t5 hwl t4' t5' hX2 hB2 hD2
          cases hf : decide ((60 : Int) < (t.fields.size : Int)) with
          | true =>
            go_wp2_with (first | (rw [hW2]) | fail)
            go_returns
            exact ⟨_, rfl, (fun h => by cases h), HB2.out⟩
          | false =>
            obtain ⟨M3, hM3, r2, r3, r5⟩ : ∃ M3 : Int, (∀ (ts : Array TypeId) (ty : TypeId) (w : World), (Builtin.max_ ts ty #[.int .i64 (y2 : Int), .int .i64 (y3 : Int), .int .i64 (y5 : Int)]).run Tryz.prog w = .ok (.int .i64 M3) w) ∧ (y2 : Int) ≤ M3 ∧ (y3 : Int) ≤ M3 ∧ (y5 : Int) ≤ M3 := max3_le y2 y3 y5
            have HR3 := Lib.hid (And.intro r2 (And.intro r3 r5))
            have HF6 := Lib.hid (of_decide_eq_false hf)
            clear r2 r3 r5
            cases h3 : decide ((60 : Int) < M3) with
            | true =>
              go_wp2_with (first | (rw [hW2]) | fail)
              go_returns
              exact ⟨_, rfl, (fun h => by cases h), HB2.out⟩
            | false =>
              go_wp2_with (first | (go_at_call 20; refine hc.mono ?_) | (rw [hW2]) | fail)
              rintro e W9 ⟨β, rfl, rfl, hsm⟩
              have HSM := Lib.hid hsm
              have HM3 := Lib.hid (of_decide_eq_false h3)
              clear hc hsm hM3 h3 hf q1 q2 q3 q4 hW2 m0 m1 m2 m3 m4 m5
              cases β with
              | true =>
                go_wp2_with fail
                go_returns
                exact ⟨_, rfl, (fun h => by cases h), HB2.out⟩
              | false =>
                go_wp2_with fail
                clear d1 i0 i1
                generalize wr.heap.size = Q at *
                have hk1 : k + 1 ≤ l1 := by omega
                obtain ⟨k0, hk0⟩ : ∃ k0, k = k0 := ⟨_, rfl⟩
                rw [hk0] at hk1 ⊢
                generalize W9 = V3 at *
                go_loopw [6] (fun i w4 => ∃ k : Nat, k ≤ y5 ∧ i = .int .i64 k ∧ w4 = V3 ∧ ∀ (j : Nat) (u : TableD), j < k → t.tables[j]? = some u → (u.slots.length : Int) ≤ 40) (fun i _ => y5 - (intOf i).toNat)
                case atStart => exact ⟨0, Nat.zero_le _, rfl, rfl, fun j _ hj => absurd hj (Nat.not_lt_zero j)⟩
                case round =>
                  obtain ⟨j, hj, rfl, rfl, hta⟩ := hrel
                  have HTA := Lib.hid hta
                  clear hta
                  by_cases hlj : j < y5
                  · obtain ⟨bt, ot, tb, us, rfl, _, hx, hbt, iT⟩ := T5.out.item hlj
                    obtain ⟨u1, v1, w1, rfl, hsl⟩ := table_is.1 iT
                    have HSL := Lib.hid hsl.1
                    have HXT := Lib.hid hx
                    clear hsl
                    have i0 : (j : Int) < (y5 : Int) := by omega
                    have i1 : (0 : Int) ≤ (j : Int) := by omega
                    have n1 : wr.cell? ⟨bt, ot + j * 2 + 1, none⟩ = some (.slice u1 v1 w1) := hbt 1 _ rfl
                    clear hx hbt iT
                    cases h41 : decide ((40 : Int) < (v1 : Int)) with
                    | true =>
                      go_wp2_with fail
                      go_returns
                      exact ⟨_, rfl, (fun h => by cases h), HB2.out⟩
                    | false =>
                      have H41 := Lib.hid (of_decide_eq_false h41)
                      go_wp2_with fail
                      refine ⟨⟨j + 1, by omega, by go_num, trivial, fun j' u' hj' hu => ?_⟩, by simp [intOf]; omega⟩
                      rcases Nat.lt_or_ge j' j with h | h
                      · exact HTA.out j' u' h hu
                      · rw [show j' = j by omega, HXT.out] at hu
                        cases hu
                        have := H41.out
                        rw [HSL.out]
                        omega
                  · obtain rfl : y5 = j := by omega
                    go_wp2_with fail
                    refine ⟨⟨k0 + 1, hk1, by go_num, HX2.out, HB2.out, fun j' t' hj' ht => ?_⟩, by simp [intOf]; omega⟩
                    rcases Nat.lt_or_ge j' k0 with h | h
                    · exact HALL.out j' t' (by omega) ht
                    · rw [show j' = k by omega, HXD.out] at ht
                      cases ht
                      have e1 := HF6.out
                      have e2 := HR3.out
                      have e3 := HM3.out
                      exact ⟨by omega, by rw [HY2.out]; omega, by rw [HY3.out]; omega, by rw [HY5.out]; omega, HSM.out (by trivial), fun j u hu => HTA.out j u (by have := (List.getElem?_eq_some_iff.1 hu).1; rw [HY5.out] at this; omega) hu⟩
        · have HCL := Lib.hid (show ∀ (j : Nat) (t : DescD), x.classes[j]? = some t → SmallD t from fun j t ht => HALL.out j t (by have := (List.getElem?_eq_some_iff.1 ht).1; rw [F1.out.1] at this; omega) ht)
          clear HALL
          obtain rfl : l1 = k := by omega
          clear hX hB
          go_wp2_with fail
          clear d1
          generalize wr = V2 at *
          go_loopw [7] (fun i wr => ∃ k m : Nat, k ≤ l2 ∧ i = .int .i64 k ∧ wr = V2.drewN m ∧ ∀ (j : Nat) (t : CodeD), j < k → x.codes[j]? = some t → SmallC t) (fun i _ => l2 - (intOf i).toNat)
          case atStart => exact ⟨0, 0, Nat.zero_le _, rfl, rfl, fun j _ hj => absurd hj (Nat.not_lt_zero j)⟩
          case round =>
            obtain ⟨k, m, hk, rfl, hwr, hall⟩ := hrel
            have HALL := Lib.hid hall
            clear hall
            have HWR := Lib.hid hwr
            have hB := below_drew HB.out m
            rw [← hwr] at hB
            have hX := HX.out
            have hX2 : wr.heap[W.heap.size]? = some (.cells #[.slice a0 l0 c0, .slice a1 l1 c1, .slice a2 l2 c2, .slice a3 l3 c3, .string x.globals, .slice a5 l5 c5, .slice a6 l6 c6, .slice a7 l7 c7, .slice a8 l8 c8, .slice a9 l9 c9, .int .i64 x.d, .int .i64 x.w] 29 (0, 0)) := by rw [hwr]; exact hX
            have d2 : wr.cell? ⟨W.heap.size, 2, none⟩ = some (.slice a2 l2 c2) := by rw [Lib.cell_of_heap (hX2)]; rfl
            have HBW := Lib.hid hB
            by_cases hlt : k < l2
            · obtain ⟨ba, oa, t, vs, rfl, _, hx, hba, iA⟩ := (row_lim F2.out (hB.mono HL.out)).item hlt
              have i0 : (k : Int) < (l2 : Int) := by omega
              have i1 : (0 : Int) ≤ (k : Int) := by omega
              obtain ⟨z5, y5, x5, rfl, hop⟩ := code_is.1 iA
              have HOP := Lib.hid hop.1
              have HXC := Lib.hid hx
              clear hop
              have m1 : wr.cell? ⟨ba, oa + k * 6 + 1, none⟩ = some (.string t.params) := hba 1 _ rfl
              have m2 : wr.cell? ⟨ba, oa + k * 6 + 2, none⟩ = some (.string t.locals) := hba 2 _ rfl
              have m5 : wr.cell? ⟨ba, oa + k * 6 + 5, none⟩ = some (.slice z5 y5 x5) := hba 5 _ rfl
              obtain ⟨M2, hM2, r1, r2⟩ : ∃ M2 : Int, (∀ (ts : Array TypeId) (ty : TypeId) (w : World), (Builtin.max_ ts ty #[.int .i64 (t.params.size : Int), .int .i64 (t.locals.size : Int)]).run Tryz.prog w = .ok (.int .i64 M2) w) ∧ (t.params.size : Int) ≤ M2 ∧ (t.locals.size : Int) ≤ M2 := max2_le t.params.size t.locals.size
              have HR2 := Lib.hid (And.intro r1 r2)
              clear r1 r2
              clear hba hx iA hX hX2 hwr hB
              cases h60 : decide ((60 : Int) < M2) with
              | true =>
                go_wp2_with fail
                go_quiet (fail)
                go_wp2_with fail
                go_returns
                exact ⟨_, rfl, (fun h => by cases h), below_drew HBW.out nq⟩
              | false =>
                cases h200 : decide ((200 : Int) < (y5 : Int)) with
                | true =>
                  go_wp2_with fail
                  go_quiet (fail)
                  go_wp2_with fail
                  go_returns
                  exact ⟨_, rfl, (fun h => by cases h), below_drew HBW.out nq⟩
                | false =>
                  have H60 := Lib.hid (of_decide_eq_false h60)
                  have H200 := Lib.hid (of_decide_eq_false h200)
                  go_wp2_with fail
                  go_quiet (fail)
                  go_wp2_with fail
                  refine ⟨⟨k + 1, m + nq, ?_, ?_, ?_, ?_⟩, ?_⟩
                  · omega
                  · go_num
                  · rw [HWR.out, World.drewN_drewN]
                  · intro j' t' hj' ht
                    rcases Nat.lt_or_ge j' k with h | h
                    · exact HALL.out j' t' h ht
                    · rw [show j' = k by omega, HXC.out] at ht
                      cases ht
                      have e1 := H60.out
                      have e2 := H200.out
                      have e3 := HR2.out
                      exact ⟨by omega, by omega, by rw [HOP.out]; omega⟩
                  · simp [intOf]; omega
            · have HCO := Lib.hid (show ∀ (j : Nat) (t : CodeD), x.codes[j]? = some t → SmallC t from fun j t ht => HALL.out j t (by have := (List.getElem?_eq_some_iff.1 ht).1; rw [F2.out.1] at this; omega) ht)
              clear HALL
              obtain rfl : l2 = k := by omega
              clear hX hX2 hwr hB
              go_wp2_with fail
              go_returns
              exact ⟨_, rfl, (fun _ => ⟨HLN.out, HGL.out, HFA.out, HCL.out, HCO.out⟩), HBW.out⟩
end Go.Proofs.YtoaohoeghlidaaaGreatDoor
