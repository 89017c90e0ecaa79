/-
  Whether an image is great: some truth, and nothing is changed.
-/
import Derived.Test.YtoaohoeghlidaaaGreatDoorEqI
import Derived.Laws.Cover1
import Derived.Laws.Small
namespace Go.Proofs.YtoaohoeghlidaaaGreatDoor
open Go.ChangeShapes Go.WideShapes Go.ChangeAt Go.RowKit

def mx2 (a b : Int) : Int := if b > a then b else a
theorem max9 (a b c d e f g h i : Int) : ∃ M : Int, ∀ (ts : Array TypeId) (t : TypeId) (w : World), (Builtin.max_ ts t #[.int .i64 a, .int .i64 b, .int .i64 c, .int .i64 d, .int .i64 e, .int .i64 f, .int .i64 g, .int .i64 h, .int .i64 i]).run Tryz.prog w = .ok (.int .i64 M) w := by
  refine ⟨mx2 (mx2 (mx2 (mx2 (mx2 (mx2 (mx2 (mx2 a b) c) d) e) f) g) h) i, fun ts t w => ?_⟩
  simp only [Builtin.max_, List.foldlM_cons, List.foldlM_nil, Builtin.max2, Sem.run_bind, Sem.run_pure, Result.andThen_ok]
  rfl

set_option maxHeartbeats 1600000 in
set_option maxRecDepth 100000 in
theorem texts_great (p q : Int) (a : Option Addr) (l c : Nat) (xs : List ByteArray) (S : Nat → Prop) (W : World) (hr : Row shStr S W a l xs) :
    Calls Tryz.prog 20 #[.slice a l c, .int .i64 p, .int .i64 q] W fun e W' => ∃ β, e = .returned (.bool β) ∧ W' = W := by
  have hml : l ≤ 9223372036854775807 := by have := hr.le; unfold maxLen at this; omega
  have HR := Lib.hid hr
  clear hr
  cases hp : decide ((l : Int) ≤ p) with
  | false =>
    go_enter Tryz.func20, Tryz.ntmps20
    go_wp2_with fail
    go_loopw [7] (fun i wr => i = .int .i64 0 ∧ wr = W) (fun _ _ => 0)
    case atStart => exact ⟨rfl, rfl⟩
    case round =>
      obtain ⟨rfl, rfl⟩ := hrel
      by_cases h0 : 0 < l
      · have i0 : (0 : Int) < (l : Int) := by omega
        go_wp2_with fail
        go_returns
        exact ⟨_, rfl, rfl⟩
      · obtain rfl : l = 0 := by omega
        go_wp2_with fail
        go_returns
        exact ⟨_, rfl, rfl⟩
  | true =>
    go_enter Tryz.func20, Tryz.ntmps20
    go_wp2_with fail
    go_loopw [7] (fun i wr => ∃ k : Nat, k ≤ l ∧ i = .int .i64 k ∧ wr = W) (fun i _ => l - (intOf i).toNat)
    case atStart => exact ⟨0, Nat.zero_le _, rfl, rfl⟩
    case round =>
      obtain ⟨k, hk, rfl, rfl⟩ := hrel
      by_cases hlt : k < l
      · obtain ⟨bb, o, x, vs, rfl, _, hx, hb, hI⟩ := HR.out.item hlt
        obtain rfl := str_is.1 hI
        have i0 : (k : Int) < (l : Int) := by omega
        have i1 : (0 : Int) ≤ (k : Int) := by omega
        have e0 : wr.cell? ⟨bb, o + k, none⟩ = some (.string x) := by have := hb 0 _ rfl; rw [show o + k * shStr.n + 0 = o + k by show o + k * 1 + 0 = _; omega] at this; exact this
        clear hx hb hI
        cases hq : decide (q < (x.size : Int)) with
        | true =>
          go_wp2_with fail
          go_returns
          exact ⟨_, rfl, rfl⟩
        | false =>
          go_wp2_with fail
          exact ⟨⟨k + 1, by omega, by go_num, trivial⟩, by simp [intOf]; omega⟩
      · obtain rfl : l = k := by omega
        go_wp2_with fail
        go_returns
        exact ⟨_, rfl, rfl⟩

set_option maxHeartbeats 6400000 in
set_option maxRecDepth 100000 in
theorem great_any (lim : Nat) (W : World) (vs : List Value) (x : ImgD) (h : shImg.Is (fun k => k < lim) W vs x) (hl : lim ≤ W.heap.size) :
    Calls Tryz.prog 7 #[.agg vs.toArray] W fun e W' => ∃ β, e = .returned (.bool β) ∧ Below W.heap.size W W' := by
  obtain ⟨a0, l0, c0, a1, l1, c1, a2, l2, c2, a3, l3, c3, a5, l5, c5, a6, l6, c6, a7, l7, c7, a8, l8, c8, a9, l9, c9, rfl, f0, f1, f2, f3, f5, f6, f7, f8, f9⟩ := img_is.1 h
  have HX0 := Lib.hid (show (W.alloc (.cells #[.slice a0 l0 c0, .slice a1 l1 c1, .slice a2 l2 c2, .slice a3 l3 c3, .string x.globals, .slice a5 l5 c5, .slice a6 l6 c6, .slice a7 l7 c7, .slice a8 l8 c8, .slice a9 l9 c9, .int .i64 x.d, .int .i64 x.w] 29)).heap[W.heap.size]? = some (.cells #[.slice a0 l0 c0, .slice a1 l1 c1, .slice a2 l2 c2, .slice a3 l3 c3, .string x.globals, .slice a5 l5 c5, .slice a6 l6 c6, .slice a7 l7 c7, .slice a8 l8 c8, .slice a9 l9 c9, .int .i64 x.d, .int .i64 x.w] 29 (0, 0)) from heap_alloc_new W _)
  have HB0 := Lib.hid ((Below.refl W.heap.size W).alloc (Nat.le_refl _) (.cells #[.slice a0 l0 c0, .slice a1 l1 c1, .slice a2 l2 c2, .slice a3 l3 c3, .string x.globals, .slice a5 l5 c5, .slice a6 l6 c6, .slice a7 l7 c7, .slice a8 l8 c8, .slice a9 l9 c9, .int .i64 x.d, .int .i64 x.w] 29))
  have HL := Lib.hid hl
  obtain ⟨M, hM⟩ := max9 l0 l1 l2 l3 l5 l6 l7 l8 l9
  have hm0 : l0 ≤ 9223372036854775807 := by have := f0.le; unfold maxLen at this; omega
  have hm1 : l1 ≤ 9223372036854775807 := by have := f1.le; unfold maxLen at this; omega
  have hm2 : l2 ≤ 9223372036854775807 := by have := f2.le; unfold maxLen at this; omega
  have F0 := Lib.hid f0
  have F1 := Lib.hid f1
  have F2 := Lib.hid f2
  have F3 := Lib.hid f3
  have F5 := Lib.hid f5
  have F6 := Lib.hid f6
  have F7 := Lib.hid f7
  have F8 := Lib.hid f8
  have F9 := Lib.hid f9
  clear h hl f0 f1 f2 f3 f5 f6 f7 f8 f9
  show Calls Tryz.prog 7 #[.agg #[.slice a0 l0 c0, .slice a1 l1 c1, .slice a2 l2 c2, .slice a3 l3 c3, .string x.globals, .slice a5 l5 c5, .slice a6 l6 c6, .slice a7 l7 c7, .slice a8 l8 c8, .slice a9 l9 c9, .int .i64 x.d, .int .i64 x.w]] W _
  cases h40 : decide ((40 : Int) < M) with
  | true =>
    go_enter Tryz.func7, Tryz.ntmps7
    go_wp2_with fail
    go_returns
    exact ⟨_, rfl, HB0.out⟩
  | false =>
  cases h60 : decide ((60 : Int) < (x.globals.size : Int)) with
  | true =>
    go_enter Tryz.func7, Tryz.ntmps7
    go_wp2_with fail
    go_returns
    exact ⟨_, rfl, HB0.out⟩
  | false =>
  go_enter Tryz.func7, Tryz.ntmps7
  go_wp2_with fail
  clear hM h40 h60
  generalize hV : (W.alloc (.cells #[.slice a0 l0 c0, .slice a1 l1 c1, .slice a2 l2 c2, .slice a3 l3 c3, .string x.globals, .slice a5 l5 c5, .slice a6 l6 c6, .slice a7 l7 c7, .slice a8 l8 c8, .slice a9 l9 c9, .int .i64 x.d, .int .i64 x.w] 29)) = V at *
  clear hV
  go_loopw [3] (fun i wr => ∃ k : Nat, k ≤ l0 ∧ i = .int .i64 k ∧ wr = V) (fun i _ => l0 - (intOf i).toNat)
  case atStart => exact ⟨0, Nat.zero_le _, rfl, rfl⟩
  case round =>
    obtain ⟨k, hk, rfl, rfl⟩ := hrel
    have d0 : wr.cell? ⟨W.heap.size, 0, none⟩ = some (.slice a0 l0 c0) := by rw [Lib.cell_of_heap (HX0.out)]; rfl
    by_cases hlt : k < l0
    · obtain ⟨bb, o, t, vs, rfl, _, hx, hb, hI⟩ := (row_lim F0.out (HB0.out.mono HL.out)).item hlt
      obtain ⟨u1, v1, w1, rfl, rA⟩ := slice_is.1 hI
      have i0 : (k : Int) < (l0 : Int) := by omega
      have i1 : (0 : Int) ≤ (k : Int) := by omega
      have e0 : wr.cell? ⟨bb, o + k, none⟩ = some (.slice u1 v1 w1) := by have := hb 0 _ rfl; rw [show o + k * shTexts.n + 0 = o + k by show o + k * 1 + 0 = _; omega] at this; exact this
      have hc := texts_great 20 60 u1 v1 w1 t _ wr rA
      clear hx hb hI rA
      go_wp2_with (go_at_call 20; refine hc.mono ?_)
      rintro e W9 ⟨β, rfl, rfl⟩
      clear hc
      cases β with
      | true =>
        go_wp2_with fail
        go_returns
        exact ⟨_, rfl, HB0.out⟩
      | false =>
        go_wp2_with fail
        exact ⟨⟨k + 1, by omega, by go_num, trivial⟩, by simp [intOf]; omega⟩
    · obtain rfl : l0 = k := by omega
      go_wp2_with fail
      clear d0
      generalize wr = V at *
      go_loopw [4] (fun i wr => ∃ k : Nat, k ≤ l1 ∧ i = .int .i64 k ∧ wr.heap[W.heap.size]? = some (.cells #[.slice a0 l0 c0, .slice a1 l1 c1, .slice a2 l2 c2, .slice a3 l3 c3, .string x.globals, .slice a5 l5 c5, .slice a6 l6 c6, .slice a7 l7 c7, .slice a8 l8 c8, .slice a9 l9 c9, .int .i64 x.d, .int .i64 x.w] 29 (0, 0)) ∧ Below W.heap.size W wr) (fun i _ => l1 - (intOf i).toNat)
      case atStart => exact ⟨0, Nat.zero_le _, rfl, HX0.out, HB0.out⟩
      case round =>
        clear HX0 HB0
        obtain ⟨k, hk, rfl, hX, hB⟩ := hrel
        have d1 : wr.cell? ⟨W.heap.size, 1, none⟩ = some (.slice a1 l1 c1) := by rw [Lib.cell_of_heap (hX)]; rfl
        have HX := Lib.hid hX
        have HB := Lib.hid hB
        by_cases hlt : k < l1
        · obtain ⟨ba, oa, t, vs, rfl, _, hx, hba, iA⟩ := (row_lim F1.out (hB.mono HL.out)).item hlt
          have i0 : (k : Int) < (l1 : Int) := by omega
          have i1 : (0 : Int) ≤ (k : Int) := by omega
          obtain ⟨z2, y2, x2, z3, y3, x3, z4, y4, x4, z5, y5, x5, rfl, t2, t3, t4, t5⟩ := desc_is.1 iA
          have m0 := hba 0 _ rfl
          have m1 := hba 1 _ rfl
          have m2 := hba 2 _ rfl
          have m3 := hba 3 _ rfl
          have m4 := hba 4 _ rfl
          have m5 := hba 5 _ rfl
          rw [show oa + k * shDesc.n + 0 = oa + k * 6 from rfl] at m0
          simp only [show shDesc.n = 6 from rfl] at m1 m2 m3 m4 m5
          have hsz := hB.size
          have hyl : y5 ≤ 9223372036854775807 := by have := t5.le; unfold maxLen at this; omega
          have hX2 := (Below.heap_alloc wr (.cells #[.int .i64 t.base, .string t.fields, .slice z2 y2 x2, .slice z3 y3 x3, .slice z4 y4 x4, .slice z5 y5 x5] 56) _ (heap_lt hX)).trans hX
          have hD2 := heap_alloc_new wr (.cells #[.int .i64 t.base, .string t.fields, .slice z2 y2 x2, .slice z3 y3 x3, .slice z4 y4 x4, .slice z5 y5 x5] 56)
          have hB2 := hB.alloc hsz (.cells #[.int .i64 t.base, .string t.fields, .slice z2 y2 x2, .slice z3 y3 x3, .slice z4 y4 x4, .slice z5 y5 x5] 56)
          have hwl : Below lim wr (wr.alloc (.cells #[.int .i64 t.base, .string t.fields, .slice z2 y2 x2, .slice z3 y3 x3, .slice z4 y4 x4, .slice z5 y5 x5] 56)) := (Below.refl lim wr).alloc (Nat.le_trans HL.out hsz) _
          have t4' := row_lim t4 hwl
          have t5' := row_lim t5 hwl
          have hqq : wr.heap.size ≠ W.heap.size := by have := heap_lt hX; omega
          obtain ⟨W2, hW2⟩ : ∃ W2, wr.alloc (.cells #[.int .i64 t.base, .string t.fields, .slice z2 y2 x2, .slice z3 y3 x3, .slice z4 y4 x4, .slice z5 y5 x5] 56) = W2 := ⟨_, rfl⟩
          rw [hW2] at hX2 hD2 hB2 t4' t5'
          have HX2 := Lib.hid hX2
          have HB2 := Lib.hid hB2
          have HD2 := Lib.hid hD2
          have T5 := Lib.hid t5'
          have hc := texts_great 40 60 z4 y4 x4 t.sigs _ W2 t4'
          have q1 : W2.cell? ⟨wr.heap.size, 1, none⟩ = some (.string t.fields) := by rw [Lib.cell_of_heap hD2]; rfl
          have q2 : W2.cell? ⟨wr.heap.size, 2, none⟩ = some (.slice z2 y2 x2) := by rw [Lib.cell_of_heap hD2]; rfl
          have q3 : W2.cell? ⟨wr.heap.size, 3, none⟩ = some (.slice z3 y3 x3) := by rw [Lib.cell_of_heap hD2]; rfl
          have q4 : W2.cell? ⟨wr.heap.size, 4, none⟩ = some (.slice z4 y4 x4) := by rw [Lib.cell_of_heap hD2]; rfl
          have q5 : W2.cell? ⟨wr.heap.size, 5, none⟩ = some (.slice z5 y5 x5) := by rw [Lib.cell_of_heap hD2]; rfl
          clear hba hx iA hX hB t2 t3 t4 t5 hwl t4' t5' hX2 hB2 hD2
          cases hf : decide ((60 : Int) < (t.fields.size : Int)) with
          | true =>
            go_wp2_with (first | (rw [hW2]) | fail)
            go_returns
            exact ⟨_, rfl, HB2.out⟩
          | false =>
            obtain ⟨M3, hM3⟩ : ∃ M3 : Int, ∀ (ts : Array TypeId) (ty : TypeId) (w : World), (Builtin.max_ ts ty #[.int .i64 (y2 : Int), .int .i64 (y3 : Int), .int .i64 (y5 : Int)]).run Tryz.prog w = .ok (.int .i64 M3) w := ⟨_, fun ts ty w => run_max_int3 w ts ty .i64 .i64 .i64 y2 y3 y5⟩
            cases h3 : decide ((60 : Int) < M3) with
            | true =>
              go_wp2_with (first | (rw [hW2]) | fail)
              go_returns
              exact ⟨_, rfl, HB2.out⟩
            | false =>
              go_wp2_with (first | (go_at_call 20; refine hc.mono ?_) | (rw [hW2]) | fail)
              rintro e W9 ⟨β, rfl, rfl⟩
              clear hc hM3 h3 hf q1 q2 q3 q4 hW2 m0 m1 m2 m3 m4 m5
              cases β with
              | true =>
                go_wp2_with fail
                go_returns
                exact ⟨_, rfl, HB2.out⟩
              | false =>
                go_wp2_with fail
                clear d1 i0 i1
                generalize wr.heap.size = Q at *
                have hk1 : k + 1 ≤ l1 := by omega
                obtain ⟨k0, hk0⟩ : ∃ k0, k = k0 := ⟨_, rfl⟩
                rw [hk0] at hk1 ⊢
                generalize W9 = V3 at *
                go_loopw [6] (fun i w4 => ∃ k : Nat, k ≤ y5 ∧ i = .int .i64 k ∧ w4 = V3) (fun i _ => y5 - (intOf i).toNat)
                case atStart => exact ⟨0, Nat.zero_le _, rfl, rfl⟩
                case round =>
                  obtain ⟨j, hj, rfl, rfl⟩ := hrel
                  by_cases hlj : j < y5
                  · obtain ⟨bt, ot, tb, us, rfl, _, hx, hbt, iT⟩ := T5.out.item hlj
                    obtain ⟨u1, v1, w1, rfl, -⟩ := table_is.1 iT
                    have i0 : (j : Int) < (y5 : Int) := by omega
                    have i1 : (0 : Int) ≤ (j : Int) := by omega
                    have n1 : wr.cell? ⟨bt, ot + j * 2 + 1, none⟩ = some (.slice u1 v1 w1) := hbt 1 _ rfl
                    clear hx hbt iT
                    cases h41 : decide ((40 : Int) < (v1 : Int)) with
                    | true =>
                      go_wp2_with fail
                      go_returns
                      exact ⟨_, rfl, HB2.out⟩
                    | false =>
                      go_wp2_with fail
                      exact ⟨⟨j + 1, by omega, by go_num, trivial⟩, by simp [intOf]; omega⟩
                  · obtain rfl : y5 = j := by omega
                    go_wp2_with fail
                    exact ⟨⟨k0 + 1, hk1, by go_num, HX2.out, HB2.out⟩, by simp [intOf]; omega⟩
        · obtain rfl : l1 = k := by omega
          clear hX hB
          go_wp2_with fail
          clear d1
          generalize wr = V2 at *
          go_loopw [7] (fun i wr => ∃ k m : Nat, k ≤ l2 ∧ i = .int .i64 k ∧ wr = V2.drewN m) (fun i _ => l2 - (intOf i).toNat)
          case atStart => exact ⟨0, 0, Nat.zero_le _, rfl, rfl⟩
          case round =>
            obtain ⟨k, m, hk, rfl, hwr⟩ := hrel
            have HWR := Lib.hid hwr
            have hB := below_drew HB.out m
            rw [← hwr] at hB
            have hX := HX.out
            have hX2 : wr.heap[W.heap.size]? = some (.cells #[.slice a0 l0 c0, .slice a1 l1 c1, .slice a2 l2 c2, .slice a3 l3 c3, .string x.globals, .slice a5 l5 c5, .slice a6 l6 c6, .slice a7 l7 c7, .slice a8 l8 c8, .slice a9 l9 c9, .int .i64 x.d, .int .i64 x.w] 29 (0, 0)) := by rw [hwr]; exact hX
            have d2 : wr.cell? ⟨W.heap.size, 2, none⟩ = some (.slice a2 l2 c2) := by rw [Lib.cell_of_heap (hX2)]; rfl
            have HBW := Lib.hid hB
            by_cases hlt : k < l2
            · obtain ⟨ba, oa, t, vs, rfl, _, hx, hba, iA⟩ := (row_lim F2.out (hB.mono HL.out)).item hlt
              have i0 : (k : Int) < (l2 : Int) := by omega
              have i1 : (0 : Int) ≤ (k : Int) := by omega
              obtain ⟨z5, y5, x5, rfl, -⟩ := code_is.1 iA
              have m1 : wr.cell? ⟨ba, oa + k * 6 + 1, none⟩ = some (.string t.params) := hba 1 _ rfl
              have m2 : wr.cell? ⟨ba, oa + k * 6 + 2, none⟩ = some (.string t.locals) := hba 2 _ rfl
              have m5 : wr.cell? ⟨ba, oa + k * 6 + 5, none⟩ = some (.slice z5 y5 x5) := hba 5 _ rfl
              obtain ⟨M2, hM2⟩ : ∃ M2 : Int, ∀ (ts : Array TypeId) (ty : TypeId) (w : World), (Builtin.max_ ts ty #[.int .i64 (t.params.size : Int), .int .i64 (t.locals.size : Int)]).run Tryz.prog w = .ok (.int .i64 M2) w := ⟨_, fun ts ty w => run_max_int2 w ts ty .i64 .i64 t.params.size t.locals.size⟩
              clear hba hx iA hX hX2 hwr hB
              cases h60 : decide ((60 : Int) < M2) with
              | true =>
                go_wp2_with fail
                go_quiet (fail)
                go_wp2_with fail
                go_returns
                exact ⟨_, rfl, below_drew HBW.out nq⟩
              | false =>
                cases h200 : decide ((200 : Int) < (y5 : Int)) with
                | true =>
                  go_wp2_with fail
                  go_quiet (fail)
                  go_wp2_with fail
                  go_returns
                  exact ⟨_, rfl, below_drew HBW.out nq⟩
                | false =>
                  go_wp2_with fail
                  go_quiet (fail)
                  go_wp2_with fail
                  refine ⟨⟨k + 1, m + nq, ?_, ?_, ?_⟩, ?_⟩
                  · omega
                  · go_num
                  · rw [HWR.out, World.drewN_drewN]
                  · simp [intOf]; omega
            · obtain rfl : l2 = k := by omega
              clear hX hX2 hwr hB
              go_wp2_with fail
              go_returns
              exact ⟨_, rfl, HBW.out⟩
end Go.Proofs.YtoaohoeghlidaaaGreatDoor
