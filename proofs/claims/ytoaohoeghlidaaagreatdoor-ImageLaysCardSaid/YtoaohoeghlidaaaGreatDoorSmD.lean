/-
  image.Same, whatever it is asked: classes, codes.
-/
import Derived.Test.YtoaohoeghlidaaaGreatDoorSmT
namespace Go.Proofs.YtoaohoeghlidaaaGreatDoor
open Go.ChangeShapes Go.WideShapes Go.ChangeAt Go.RowKit

set_option maxHeartbeats 8000000 in
set_option maxRecDepth 100000 in
theorem sm_desc : Sm 36 [] mkA shDesc := by
  intro lim W vs us x y h1 h2 hl
  obtain ⟨pa2, pl2, pc2, pa3, pl3, pc3, pa4, pl4, pc4, pa5, pl5, pc5, rfl, hp2, hp3, hp4, hp5⟩ := desc_is.1 h1
  obtain ⟨qa2, ql2, qc2, qa3, ql3, qc3, qa4, ql4, qc4, qa5, ql5, qc5, rfl, hq2, hq3, hq4, hq5⟩ := desc_is.1 h2
  clear h1 h2
  rcases x with ⟨x0, x1, x2, x3, x4, x5⟩
  rcases y with ⟨y0, y1, y2, y3, y4, y5⟩
  have HP2 := Lib.hid (show Row shInt (fun k => k < lim) W pa2 pl2 x2 from hp2)
  have HQ2 := Lib.hid (show Row shInt (fun k => k < lim) W qa2 ql2 y2 from hq2)
  have HP3 := Lib.hid (show Row shInt (fun k => k < lim) W pa3 pl3 x3 from hp3)
  have HQ3 := Lib.hid (show Row shInt (fun k => k < lim) W qa3 ql3 y3 from hq3)
  have HP4 := Lib.hid (show Row shStr (fun k => k < lim) W pa4 pl4 x4 from hp4)
  have HQ4 := Lib.hid (show Row shStr (fun k => k < lim) W qa4 ql4 y4 from hq4)
  have HP5 := Lib.hid (show Row shTable (fun k => k < lim) W pa5 pl5 x5 from hp5)
  have HQ5 := Lib.hid (show Row shTable (fun k => k < lim) W qa5 ql5 y5 from hq5)
  have HB0 := Lib.hid (((Below.refl W.heap.size W).alloc (Nat.le_refl _) (.cells #[.int .i64 x0, .string x1, .slice pa2 pl2 pc2, .slice pa3 pl3 pc3, .slice pa4 pl4 pc4, .slice pa5 pl5 pc5] 56)).alloc (by simp) (.cells #[.int .i64 y0, .string y1, .slice qa2 ql2 qc2, .slice qa3 ql3 qc3, .slice qa4 ql4 qc4, .slice qa5 ql5 qc5] 56))
  have HX0 := Lib.hid ((Below.heap_alloc (W.alloc (.cells #[.int .i64 x0, .string x1, .slice pa2 pl2 pc2, .slice pa3 pl3 pc3, .slice pa4 pl4 pc4, .slice pa5 pl5 pc5] 56)) (.cells #[.int .i64 y0, .string y1, .slice qa2 ql2 qc2, .slice qa3 ql3 qc3, .slice qa4 ql4 qc4, .slice qa5 ql5 qc5] 56) W.heap.size (by simp)).trans (heap_alloc_new W (.cells #[.int .i64 x0, .string x1, .slice pa2 pl2 pc2, .slice pa3 pl3 pc3, .slice pa4 pl4 pc4, .slice pa5 pl5 pc5] 56)))
  have HY0 := Lib.hid (show ((W.alloc (.cells #[.int .i64 x0, .string x1, .slice pa2 pl2 pc2, .slice pa3 pl3 pc3, .slice pa4 pl4 pc4, .slice pa5 pl5 pc5] 56)).alloc (.cells #[.int .i64 y0, .string y1, .slice qa2 ql2 qc2, .slice qa3 ql3 qc3, .slice qa4 ql4 qc4, .slice qa5 ql5 qc5] 56)).heap[W.heap.size + 1]? = some (.cells #[.int .i64 y0, .string y1, .slice qa2 ql2 qc2, .slice qa3 ql3 qc3, .slice qa4 ql4 qc4, .slice qa5 ql5 qc5] 56 (0, 0)) by have := heap_alloc_new (W.alloc (.cells #[.int .i64 x0, .string x1, .slice pa2 pl2 pc2, .slice pa3 pl3 pc3, .slice pa4 pl4 pc4, .slice pa5 pl5 pc5] 56)) (.cells #[.int .i64 y0, .string y1, .slice qa2 ql2 qc2, .slice qa3 ql3 qc3, .slice qa4 ql4 qc4, .slice qa5 ql5 qc5] 56); rw [show (W.alloc (.cells #[.int .i64 x0, .string x1, .slice pa2 pl2 pc2, .slice pa3 pl3 pc3, .slice pa4 pl4 pc4, .slice pa5 pl5 pc5] 56)).heap.size = W.heap.size + 1 by simp] at this; exact this)
  clear hp2 hq2 hp3 hq3 hp4 hq4 hp5 hq5
  show Calls Tryz.prog 36 #[.agg #[.int .i64 x0, .string x1, .slice pa2 pl2 pc2, .slice pa3 pl3 pc3, .slice pa4 pl4 pc4, .slice pa5 pl5 pc5], .agg #[.int .i64 y0, .string y1, .slice qa2 ql2 qc2, .slice qa3 ql3 qc3, .slice qa4 ql4 qc4, .slice qa5 ql5 qc5]] W _
  go_enter Tryz.func36, Tryz.ntmps36
  have e0 : ((W.alloc (.cells #[.int .i64 x0, .string x1, .slice pa2 pl2 pc2, .slice pa3 pl3 pc3, .slice pa4 pl4 pc4, .slice pa5 pl5 pc5] 56)).alloc (.cells #[.int .i64 y0, .string y1, .slice qa2 ql2 qc2, .slice qa3 ql3 qc3, .slice qa4 ql4 qc4, .slice qa5 ql5 qc5] 56)).cell? ⟨W.heap.size, 0, none⟩ = some (.int .i64 x0) := by rw [Lib.cell_of_heap HX0.out]; rfl
  have d0 : ((W.alloc (.cells #[.int .i64 x0, .string x1, .slice pa2 pl2 pc2, .slice pa3 pl3 pc3, .slice pa4 pl4 pc4, .slice pa5 pl5 pc5] 56)).alloc (.cells #[.int .i64 y0, .string y1, .slice qa2 ql2 qc2, .slice qa3 ql3 qc3, .slice qa4 ql4 qc4, .slice qa5 ql5 qc5] 56)).cell? ⟨W.heap.size + 1, 0, none⟩ = some (.int .i64 y0) := by rw [Lib.cell_of_heap HY0.out]; rfl
  have e1 : ((W.alloc (.cells #[.int .i64 x0, .string x1, .slice pa2 pl2 pc2, .slice pa3 pl3 pc3, .slice pa4 pl4 pc4, .slice pa5 pl5 pc5] 56)).alloc (.cells #[.int .i64 y0, .string y1, .slice qa2 ql2 qc2, .slice qa3 ql3 qc3, .slice qa4 ql4 qc4, .slice qa5 ql5 qc5] 56)).cell? ⟨W.heap.size, 1, none⟩ = some (.string x1) := by rw [Lib.cell_of_heap HX0.out]; rfl
  have d1 : ((W.alloc (.cells #[.int .i64 x0, .string x1, .slice pa2 pl2 pc2, .slice pa3 pl3 pc3, .slice pa4 pl4 pc4, .slice pa5 pl5 pc5] 56)).alloc (.cells #[.int .i64 y0, .string y1, .slice qa2 ql2 qc2, .slice qa3 ql3 qc3, .slice qa4 ql4 qc4, .slice qa5 ql5 qc5] 56)).cell? ⟨W.heap.size + 1, 1, none⟩ = some (.string y1) := by rw [Lib.cell_of_heap HY0.out]; rfl
  have e2 : ((W.alloc (.cells #[.int .i64 x0, .string x1, .slice pa2 pl2 pc2, .slice pa3 pl3 pc3, .slice pa4 pl4 pc4, .slice pa5 pl5 pc5] 56)).alloc (.cells #[.int .i64 y0, .string y1, .slice qa2 ql2 qc2, .slice qa3 ql3 qc3, .slice qa4 ql4 qc4, .slice qa5 ql5 qc5] 56)).cell? ⟨W.heap.size, 2, none⟩ = some (.slice pa2 pl2 pc2) := by rw [Lib.cell_of_heap HX0.out]; rfl
  have d2 : ((W.alloc (.cells #[.int .i64 x0, .string x1, .slice pa2 pl2 pc2, .slice pa3 pl3 pc3, .slice pa4 pl4 pc4, .slice pa5 pl5 pc5] 56)).alloc (.cells #[.int .i64 y0, .string y1, .slice qa2 ql2 qc2, .slice qa3 ql3 qc3, .slice qa4 ql4 qc4, .slice qa5 ql5 qc5] 56)).cell? ⟨W.heap.size + 1, 2, none⟩ = some (.slice qa2 ql2 qc2) := by rw [Lib.cell_of_heap HY0.out]; rfl
  have e3 : ((W.alloc (.cells #[.int .i64 x0, .string x1, .slice pa2 pl2 pc2, .slice pa3 pl3 pc3, .slice pa4 pl4 pc4, .slice pa5 pl5 pc5] 56)).alloc (.cells #[.int .i64 y0, .string y1, .slice qa2 ql2 qc2, .slice qa3 ql3 qc3, .slice qa4 ql4 qc4, .slice qa5 ql5 qc5] 56)).cell? ⟨W.heap.size, 3, none⟩ = some (.slice pa3 pl3 pc3) := by rw [Lib.cell_of_heap HX0.out]; rfl
  have d3 : ((W.alloc (.cells #[.int .i64 x0, .string x1, .slice pa2 pl2 pc2, .slice pa3 pl3 pc3, .slice pa4 pl4 pc4, .slice pa5 pl5 pc5] 56)).alloc (.cells #[.int .i64 y0, .string y1, .slice qa2 ql2 qc2, .slice qa3 ql3 qc3, .slice qa4 ql4 qc4, .slice qa5 ql5 qc5] 56)).cell? ⟨W.heap.size + 1, 3, none⟩ = some (.slice qa3 ql3 qc3) := by rw [Lib.cell_of_heap HY0.out]; rfl
  have e4 : ((W.alloc (.cells #[.int .i64 x0, .string x1, .slice pa2 pl2 pc2, .slice pa3 pl3 pc3, .slice pa4 pl4 pc4, .slice pa5 pl5 pc5] 56)).alloc (.cells #[.int .i64 y0, .string y1, .slice qa2 ql2 qc2, .slice qa3 ql3 qc3, .slice qa4 ql4 qc4, .slice qa5 ql5 qc5] 56)).cell? ⟨W.heap.size, 4, none⟩ = some (.slice pa4 pl4 pc4) := by rw [Lib.cell_of_heap HX0.out]; rfl
  have d4 : ((W.alloc (.cells #[.int .i64 x0, .string x1, .slice pa2 pl2 pc2, .slice pa3 pl3 pc3, .slice pa4 pl4 pc4, .slice pa5 pl5 pc5] 56)).alloc (.cells #[.int .i64 y0, .string y1, .slice qa2 ql2 qc2, .slice qa3 ql3 qc3, .slice qa4 ql4 qc4, .slice qa5 ql5 qc5] 56)).cell? ⟨W.heap.size + 1, 4, none⟩ = some (.slice qa4 ql4 qc4) := by rw [Lib.cell_of_heap HY0.out]; rfl
  have e5 : ((W.alloc (.cells #[.int .i64 x0, .string x1, .slice pa2 pl2 pc2, .slice pa3 pl3 pc3, .slice pa4 pl4 pc4, .slice pa5 pl5 pc5] 56)).alloc (.cells #[.int .i64 y0, .string y1, .slice qa2 ql2 qc2, .slice qa3 ql3 qc3, .slice qa4 ql4 qc4, .slice qa5 ql5 qc5] 56)).cell? ⟨W.heap.size, 5, none⟩ = some (.slice pa5 pl5 pc5) := by rw [Lib.cell_of_heap HX0.out]; rfl
  have d5 : ((W.alloc (.cells #[.int .i64 x0, .string x1, .slice pa2 pl2 pc2, .slice pa3 pl3 pc3, .slice pa4 pl4 pc4, .slice pa5 pl5 pc5] 56)).alloc (.cells #[.int .i64 y0, .string y1, .slice qa2 ql2 qc2, .slice qa3 ql3 qc3, .slice qa4 ql4 qc4, .slice qa5 ql5 qc5] 56)).cell? ⟨W.heap.size + 1, 5, none⟩ = some (.slice qa5 ql5 qc5) := by rw [Lib.cell_of_heap HY0.out]; rfl
  by_cases m0 : x0 = y0
  rotate_left
  · have n0 := m0
    clear m0
    have b0 : (x0 == y0) = false := by simp [n0]
    have HNE := Lib.hid (show (⟨x0, x1, x2, x3, x4, x5⟩ : DescD) ≠ ⟨y0, y1, y2, y3, y4, y5⟩ from fun h => n0 (by cases h; rfl))
    clear n0
    go_wp2_with fail
    go_returns
    exact ⟨⟨false, rfl, by simp only [Bool.false_eq_true, false_iff]; exact HNE.out⟩, HB0.out⟩
  subst m0
  by_cases m1 : x1 = y1
  rotate_left
  · have n1 := m1
    clear m1
    have b1 := str_ne n1
    have HNE := Lib.hid (show (⟨x0, x1, x2, x3, x4, x5⟩ : DescD) ≠ ⟨x0, y1, y2, y3, y4, y5⟩ from fun h => n1 (by cases h; rfl))
    clear n1
    go_wp2_with fail
    go_returns
    exact ⟨⟨false, rfl, by simp only [Bool.false_eq_true, false_iff]; exact HNE.out⟩, HB0.out⟩
  subst m1
  have hc : Calls Tryz.prog 39 #[.slice pa2 pl2 pc2, .slice qa2 ql2 qc2] ((W.alloc (.cells #[.int .i64 x0, .string x1, .slice pa2 pl2 pc2, .slice pa3 pl3 pc3, .slice pa4 pl4 pc4, .slice pa5 pl5 pc5] 56)).alloc (.cells #[.int .i64 x0, .string x1, .slice qa2 ql2 qc2, .slice qa3 ql3 qc3, .slice qa4 ql4 qc4, .slice qa5 ql5 qc5] 56)) _ := sm_ints lim ((W.alloc (.cells #[.int .i64 x0, .string x1, .slice pa2 pl2 pc2, .slice pa3 pl3 pc3, .slice pa4 pl4 pc4, .slice pa5 pl5 pc5] 56)).alloc (.cells #[.int .i64 x0, .string x1, .slice qa2 ql2 qc2, .slice qa3 ql3 qc3, .slice qa4 ql4 qc4, .slice qa5 ql5 qc5] 56)) [.slice pa2 pl2 pc2] [.slice qa2 ql2 qc2] x2 y2 (slice_is.2 ⟨_, _, _, rfl, HP2.out.keep (fun k hk => HB0.out.block k (by omega))⟩) (slice_is.2 ⟨_, _, _, rfl, HQ2.out.keep (fun k hk => HB0.out.block k (by omega))⟩) (Nat.le_trans hl HB0.out.size)
  go_wp2_with (go_at_call 39; refine hc.mono ?_)
  first | rintro e V1 ⟨⟨β, rfl, hβ⟩, hb⟩ | rintro e V1 β rfl hβ hb | rintro e V1 ⟨β, rfl, hβ⟩ hb
  have HB1 := Lib.hid (HB0.out.trans (hb.mono HB0.out.size))
  have HX1 := Lib.hid ((hb.block _ (heap_lt HX0.out)).trans HX0.out)
  have HY1 := Lib.hid ((hb.block _ (heap_lt HY0.out)).trans HY0.out)
  clear hc hb
  clear e0 d0 e1 d1 e2 d2 e3 d3 e4 d4 e5 d5
  clear HX0 HY0
  have e3 : V1.cell? ⟨W.heap.size, 3, none⟩ = some (.slice pa3 pl3 pc3) := by rw [Lib.cell_of_heap HX1.out]; rfl
  have d3 : V1.cell? ⟨W.heap.size + 1, 3, none⟩ = some (.slice qa3 ql3 qc3) := by rw [Lib.cell_of_heap HY1.out]; rfl
  have e4 : V1.cell? ⟨W.heap.size, 4, none⟩ = some (.slice pa4 pl4 pc4) := by rw [Lib.cell_of_heap HX1.out]; rfl
  have d4 : V1.cell? ⟨W.heap.size + 1, 4, none⟩ = some (.slice qa4 ql4 qc4) := by rw [Lib.cell_of_heap HY1.out]; rfl
  have e5 : V1.cell? ⟨W.heap.size, 5, none⟩ = some (.slice pa5 pl5 pc5) := by rw [Lib.cell_of_heap HX1.out]; rfl
  have d5 : V1.cell? ⟨W.heap.size + 1, 5, none⟩ = some (.slice qa5 ql5 qc5) := by rw [Lib.cell_of_heap HY1.out]; rfl
  cases β with
  | false =>
    have n2 : ¬ x2 = y2 := fun h => by have := hβ.2 h; cases this
    clear hβ
    have HNE := Lib.hid (show (⟨x0, x1, x2, x3, x4, x5⟩ : DescD) ≠ ⟨x0, x1, y2, y3, y4, y5⟩ from fun h => n2 (by cases h; rfl))
    clear n2
    go_wp2_with fail
    go_returns
    exact ⟨⟨false, rfl, by simp only [Bool.false_eq_true, false_iff]; exact HNE.out⟩, HB1.out⟩
  | true =>
  have m2 := hβ.1 rfl
  clear hβ
  subst m2
  have hc : Calls Tryz.prog 39 #[.slice pa3 pl3 pc3, .slice qa3 ql3 qc3] V1 _ := sm_ints lim V1 [.slice pa3 pl3 pc3] [.slice qa3 ql3 qc3] x3 y3 (slice_is.2 ⟨_, _, _, rfl, HP3.out.keep (fun k hk => HB1.out.block k (by omega))⟩) (slice_is.2 ⟨_, _, _, rfl, HQ3.out.keep (fun k hk => HB1.out.block k (by omega))⟩) (Nat.le_trans hl HB1.out.size)
  go_wp2_with (go_at_call 39; refine hc.mono ?_)
  first | rintro e V2 ⟨⟨β, rfl, hβ⟩, hb⟩ | rintro e V2 β rfl hβ hb | rintro e V2 ⟨β, rfl, hβ⟩ hb
  have HB2 := Lib.hid (HB1.out.trans (hb.mono HB1.out.size))
  have HX2 := Lib.hid ((hb.block _ (heap_lt HX1.out)).trans HX1.out)
  have HY2 := Lib.hid ((hb.block _ (heap_lt HY1.out)).trans HY1.out)
  clear hc hb
  clear e3 d3 e4 d4 e5 d5
  clear HX1 HY1
  have e4 : V2.cell? ⟨W.heap.size, 4, none⟩ = some (.slice pa4 pl4 pc4) := by rw [Lib.cell_of_heap HX2.out]; rfl
  have d4 : V2.cell? ⟨W.heap.size + 1, 4, none⟩ = some (.slice qa4 ql4 qc4) := by rw [Lib.cell_of_heap HY2.out]; rfl
  have e5 : V2.cell? ⟨W.heap.size, 5, none⟩ = some (.slice pa5 pl5 pc5) := by rw [Lib.cell_of_heap HX2.out]; rfl
  have d5 : V2.cell? ⟨W.heap.size + 1, 5, none⟩ = some (.slice qa5 ql5 qc5) := by rw [Lib.cell_of_heap HY2.out]; rfl
  cases β with
  | false =>
    have n3 : ¬ x3 = y3 := fun h => by have := hβ.2 h; cases this
    clear hβ
    have HNE := Lib.hid (show (⟨x0, x1, x2, x3, x4, x5⟩ : DescD) ≠ ⟨x0, x1, x2, y3, y4, y5⟩ from fun h => n3 (by cases h; rfl))
    clear n3
    go_wp2_with fail
    go_returns
    exact ⟨⟨false, rfl, by simp only [Bool.false_eq_true, false_iff]; exact HNE.out⟩, HB2.out⟩
  | true =>
  have m3 := hβ.1 rfl
  clear hβ
  subst m3
  have hc : Calls Tryz.prog 34 #[.slice pa4 pl4 pc4, .slice qa4 ql4 qc4] V2 _ := sm_texts lim V2 [.slice pa4 pl4 pc4] [.slice qa4 ql4 qc4] x4 y4 (slice_is.2 ⟨_, _, _, rfl, HP4.out.keep (fun k hk => HB2.out.block k (by omega))⟩) (slice_is.2 ⟨_, _, _, rfl, HQ4.out.keep (fun k hk => HB2.out.block k (by omega))⟩) (Nat.le_trans hl HB2.out.size)
  go_wp2_with (go_at_call 34; refine hc.mono ?_)
  first | rintro e V3 ⟨⟨β, rfl, hβ⟩, hb⟩ | rintro e V3 β rfl hβ hb | rintro e V3 ⟨β, rfl, hβ⟩ hb
  have HB3 := Lib.hid (HB2.out.trans (hb.mono HB2.out.size))
  have HX3 := Lib.hid ((hb.block _ (heap_lt HX2.out)).trans HX2.out)
  have HY3 := Lib.hid ((hb.block _ (heap_lt HY2.out)).trans HY2.out)
  clear hc hb
  clear e4 d4 e5 d5
  clear HX2 HY2
  have e5 : V3.cell? ⟨W.heap.size, 5, none⟩ = some (.slice pa5 pl5 pc5) := by rw [Lib.cell_of_heap HX3.out]; rfl
  have d5 : V3.cell? ⟨W.heap.size + 1, 5, none⟩ = some (.slice qa5 ql5 qc5) := by rw [Lib.cell_of_heap HY3.out]; rfl
  cases β with
  | false =>
    have n4 : ¬ x4 = y4 := fun h => by have := hβ.2 h; cases this
    clear hβ
    have HNE := Lib.hid (show (⟨x0, x1, x2, x3, x4, x5⟩ : DescD) ≠ ⟨x0, x1, x2, x3, y4, y5⟩ from fun h => n4 (by cases h; rfl))
    clear n4
    go_wp2_with fail
    go_returns
    exact ⟨⟨false, rfl, by simp only [Bool.false_eq_true, false_iff]; exact HNE.out⟩, HB3.out⟩
  | true =>
  have m4 := hβ.1 rfl
  clear hβ
  subst m4
  have hc : Calls Tryz.prog 70 #[.slice pa5 pl5 pc5, .slice qa5 ql5 qc5, .func (.func 71) #[] #[]] V3 _ := sm_tables lim V3 [.slice pa5 pl5 pc5] [.slice qa5 ql5 qc5] x5 y5 (slice_is.2 ⟨_, _, _, rfl, HP5.out.keep (fun k hk => HB3.out.block k (by omega))⟩) (slice_is.2 ⟨_, _, _, rfl, HQ5.out.keep (fun k hk => HB3.out.block k (by omega))⟩) (Nat.le_trans hl HB3.out.size)
  go_wp2_with (go_at_call 70; refine hc.mono ?_)
  first | rintro e V4 ⟨⟨β, rfl, hβ⟩, hb⟩ | rintro e V4 β rfl hβ hb | rintro e V4 ⟨β, rfl, hβ⟩ hb
  have HB4 := Lib.hid (HB3.out.trans (hb.mono HB3.out.size))
  clear hc hb
  clear e5 d5
  cases β with
  | false =>
    have n5 : ¬ x5 = y5 := fun h => by have := hβ.2 h; cases this
    clear hβ
    have HNE := Lib.hid (show (⟨x0, x1, x2, x3, x4, x5⟩ : DescD) ≠ ⟨x0, x1, x2, x3, x4, y5⟩ from fun h => n5 (by cases h; rfl))
    clear n5
    go_wp2_with fail
    go_returns
    exact ⟨⟨false, rfl, by simp only [Bool.false_eq_true, false_iff]; exact HNE.out⟩, HB4.out⟩
  | true =>
  have m5 := hβ.1 rfl
  clear hβ
  subst m5
  go_wp2_with fail
  go_returns
  refine ⟨?_, HB4.out⟩
  first | exact ⟨true, rfl, by simp⟩ | rfl

set_option maxHeartbeats 3200000 in
set_option maxRecDepth 100000 in
theorem sm_descs : Sm 35 [.func (.func 36) #[] #[]] mk1 (shSlice shDesc) := by
  intro lim W vs us xs ys h1 h2 hl
  obtain ⟨a, l, c, rfl, hr⟩ := slice_is.1 h1
  obtain ⟨a', l', c', rfl, hr'⟩ := slice_is.1 h2
  have HR := Lib.hid hr
  have HR' := Lib.hid hr'
  have hml : l ≤ 9223372036854775807 := by have := hr.le; unfold maxLen at this; omega
  clear h1 h2
  by_cases hnl : ¬ l = l'
  · have hll := hnl
    have hl2 : ((l : Int) != (l' : Int)) = true := by simp; omega
    have hne : xs ≠ ys := fun h => hll (by rw [← hr.1, ← hr'.1, h])
    clear hr hr'
    show Calls Tryz.prog 35 #[.slice a l c, .slice a' l' c', .func (.func 36) #[] #[]] W _
    go_enter Tryz.func35, Tryz.ntmps35
    go_wp2_with fail
    go_returns
    exact ⟨⟨false, rfl, by simp [hne]⟩, Below.refl _ _⟩
  obtain rfl := Decidable.not_not.1 hnl
  clear hnl
  have hl2 : ((l : Int) != (l : Int)) = false := by simp
  have hlen := hr.1
  have hlen' := hr'.1
  clear hr hr'
  show Calls Tryz.prog 35 #[.slice a l c, .slice a' l c', .func (.func 36) #[] #[]] W _
  go_enter Tryz.func35, Tryz.ntmps35
  go_wp2_with fail
  go_loopw [17] (fun i wr => ∃ k : Nat, k ≤ l ∧ i = .int .i64 k ∧ Below W.heap.size W wr ∧ (∀ j, j < k → xs[j]? = ys[j]?)) (fun i _ => l - (intOf i).toNat)
  case atStart => exact ⟨0, Nat.zero_le _, rfl, Below.refl _ _, fun j hj => absurd hj (Nat.not_lt_zero j)⟩
  case round =>
    obtain ⟨k, hk, rfl, hbw, hsame⟩ := hrel
    have HBW := Lib.hid hbw
    have HSM := Lib.hid hsame
    clear hsame
    by_cases hlt : k < l
    · have hrA : Row shDesc (fun k => k < lim) wr a l xs := HR.out.keep (fun k hk => hbw.block k (by omega))
      have hrB : Row shDesc (fun k => k < lim) wr a' l ys := HR'.out.keep (fun k hk => hbw.block k (by omega))
      obtain ⟨ba, oa, x, vs, rfl, hSa, hx, hba, iA⟩ := hrA.item hlt
      obtain ⟨bb, ob, y, us, rfl, hSb, hx', hbb, iB⟩ := hrB.item hlt
      have i0 : (k : Int) < (l : Int) := by omega
      have i1 : (0 : Int) ≤ (k : Int) := by omega
      have hc0 := fun (V : World) (hv : Below wr.heap.size wr V) (hlw : lim ≤ wr.heap.size) => sm_desc lim V vs us x y (shDesc.keep (fun k hk => hv.block k (by omega)) iA) (shDesc.keep (fun k hk => hv.block k (by omega)) iB) (Nat.le_trans hlw hv.size)
      obtain ⟨pa2, pl2, pc2, pa3, pl3, pc3, pa4, pl4, pc4, pa5, pl5, pc5, rfl, -⟩ := desc_is.1 iA
      obtain ⟨qa2, ql2, qc2, qa3, ql3, qc3, qa4, ql4, qc4, qa5, ql5, qc5, rfl, -⟩ := desc_is.1 iB
      have e0 : wr.cell? ⟨ba, oa + k * 6, none⟩ = some (.int .i64 x.base) := hba 0 _ rfl
      have e1 : wr.cell? ⟨ba, oa + k * 6 + 1, none⟩ = some (.string x.fields) := hba 1 _ rfl
      have e2 : wr.cell? ⟨ba, oa + k * 6 + 2, none⟩ = some (.slice pa2 pl2 pc2) := hba 2 _ rfl
      have e3 : wr.cell? ⟨ba, oa + k * 6 + 3, none⟩ = some (.slice pa3 pl3 pc3) := hba 3 _ rfl
      have e4 : wr.cell? ⟨ba, oa + k * 6 + 4, none⟩ = some (.slice pa4 pl4 pc4) := hba 4 _ rfl
      have e5 : wr.cell? ⟨ba, oa + k * 6 + 5, none⟩ = some (.slice pa5 pl5 pc5) := hba 5 _ rfl
      have hz1 : ((wr.alloc (.cells #[.int .i64 0, .string ⟨#[]⟩, .slice none 0 0, .slice none 0 0, .slice none 0 0, .slice none 0 0] 56)).setRow wr.heap.size #[.int .i64 x.base, .string x.fields, .slice pa2 pl2 pc2, .slice pa3 pl3 pc3, .slice pa4 pl4 pc4, .slice pa5 pl5 pc5]).heap.size = wr.heap.size + 1 := by simp [World.setRow]
      have d0 : ((wr.alloc (.cells #[.int .i64 0, .string ⟨#[]⟩, .slice none 0 0, .slice none 0 0, .slice none 0 0, .slice none 0 0] 56)).setRow wr.heap.size #[.int .i64 x.base, .string x.fields, .slice pa2 pl2 pc2, .slice pa3 pl3 pc3, .slice pa4 pl4 pc4, .slice pa5 pl5 pc5]).cell? ⟨bb, ob + k * 6, none⟩ = some (.int .i64 y.base) := by
        rw [World.cell?_of_block (a := ⟨bb, ob + k * 6, none⟩) (boxT_keep wr #[.int .i64 0, .string ⟨#[]⟩, .slice none 0 0, .slice none 0 0, .slice none 0 0, .slice none 0 0] #[.int .i64 x.base, .string x.fields, .slice pa2 pl2 pc2, .slice pa3 pl3 pc3, .slice pa4 pl4 pc4, .slice pa5 pl5 pc5] 56 bb (by have := hbw.size; omega))]
        exact hbb 0 _ rfl
      have d1 : ((wr.alloc (.cells #[.int .i64 0, .string ⟨#[]⟩, .slice none 0 0, .slice none 0 0, .slice none 0 0, .slice none 0 0] 56)).setRow wr.heap.size #[.int .i64 x.base, .string x.fields, .slice pa2 pl2 pc2, .slice pa3 pl3 pc3, .slice pa4 pl4 pc4, .slice pa5 pl5 pc5]).cell? ⟨bb, ob + k * 6 + 1, none⟩ = some (.string y.fields) := by
        rw [World.cell?_of_block (a := ⟨bb, ob + k * 6 + 1, none⟩) (boxT_keep wr #[.int .i64 0, .string ⟨#[]⟩, .slice none 0 0, .slice none 0 0, .slice none 0 0, .slice none 0 0] #[.int .i64 x.base, .string x.fields, .slice pa2 pl2 pc2, .slice pa3 pl3 pc3, .slice pa4 pl4 pc4, .slice pa5 pl5 pc5] 56 bb (by have := hbw.size; omega))]
        exact hbb 1 _ rfl
      have d2 : ((wr.alloc (.cells #[.int .i64 0, .string ⟨#[]⟩, .slice none 0 0, .slice none 0 0, .slice none 0 0, .slice none 0 0] 56)).setRow wr.heap.size #[.int .i64 x.base, .string x.fields, .slice pa2 pl2 pc2, .slice pa3 pl3 pc3, .slice pa4 pl4 pc4, .slice pa5 pl5 pc5]).cell? ⟨bb, ob + k * 6 + 2, none⟩ = some (.slice qa2 ql2 qc2) := by
        rw [World.cell?_of_block (a := ⟨bb, ob + k * 6 + 2, none⟩) (boxT_keep wr #[.int .i64 0, .string ⟨#[]⟩, .slice none 0 0, .slice none 0 0, .slice none 0 0, .slice none 0 0] #[.int .i64 x.base, .string x.fields, .slice pa2 pl2 pc2, .slice pa3 pl3 pc3, .slice pa4 pl4 pc4, .slice pa5 pl5 pc5] 56 bb (by have := hbw.size; omega))]
        exact hbb 2 _ rfl
      have d3 : ((wr.alloc (.cells #[.int .i64 0, .string ⟨#[]⟩, .slice none 0 0, .slice none 0 0, .slice none 0 0, .slice none 0 0] 56)).setRow wr.heap.size #[.int .i64 x.base, .string x.fields, .slice pa2 pl2 pc2, .slice pa3 pl3 pc3, .slice pa4 pl4 pc4, .slice pa5 pl5 pc5]).cell? ⟨bb, ob + k * 6 + 3, none⟩ = some (.slice qa3 ql3 qc3) := by
        rw [World.cell?_of_block (a := ⟨bb, ob + k * 6 + 3, none⟩) (boxT_keep wr #[.int .i64 0, .string ⟨#[]⟩, .slice none 0 0, .slice none 0 0, .slice none 0 0, .slice none 0 0] #[.int .i64 x.base, .string x.fields, .slice pa2 pl2 pc2, .slice pa3 pl3 pc3, .slice pa4 pl4 pc4, .slice pa5 pl5 pc5] 56 bb (by have := hbw.size; omega))]
        exact hbb 3 _ rfl
      have d4 : ((wr.alloc (.cells #[.int .i64 0, .string ⟨#[]⟩, .slice none 0 0, .slice none 0 0, .slice none 0 0, .slice none 0 0] 56)).setRow wr.heap.size #[.int .i64 x.base, .string x.fields, .slice pa2 pl2 pc2, .slice pa3 pl3 pc3, .slice pa4 pl4 pc4, .slice pa5 pl5 pc5]).cell? ⟨bb, ob + k * 6 + 4, none⟩ = some (.slice qa4 ql4 qc4) := by
        rw [World.cell?_of_block (a := ⟨bb, ob + k * 6 + 4, none⟩) (boxT_keep wr #[.int .i64 0, .string ⟨#[]⟩, .slice none 0 0, .slice none 0 0, .slice none 0 0, .slice none 0 0] #[.int .i64 x.base, .string x.fields, .slice pa2 pl2 pc2, .slice pa3 pl3 pc3, .slice pa4 pl4 pc4, .slice pa5 pl5 pc5] 56 bb (by have := hbw.size; omega))]
        exact hbb 4 _ rfl
      have d5 : ((wr.alloc (.cells #[.int .i64 0, .string ⟨#[]⟩, .slice none 0 0, .slice none 0 0, .slice none 0 0, .slice none 0 0] 56)).setRow wr.heap.size #[.int .i64 x.base, .string x.fields, .slice pa2 pl2 pc2, .slice pa3 pl3 pc3, .slice pa4 pl4 pc4, .slice pa5 pl5 pc5]).cell? ⟨bb, ob + k * 6 + 5, none⟩ = some (.slice qa5 ql5 qc5) := by
        rw [World.cell?_of_block (a := ⟨bb, ob + k * 6 + 5, none⟩) (boxT_keep wr #[.int .i64 0, .string ⟨#[]⟩, .slice none 0 0, .slice none 0 0, .slice none 0 0, .slice none 0 0] #[.int .i64 x.base, .string x.fields, .slice pa2 pl2 pc2, .slice pa3 pl3 pc3, .slice pa4 pl4 pc4, .slice pa5 pl5 pc5] 56 bb (by have := hbw.size; omega))]
        exact hbb 5 _ rfl
      have HK1 := Lib.hid (heap_alloc_new wr (.cells #[.int .i64 0, .string ⟨#[]⟩, .slice none 0 0, .slice none 0 0, .slice none 0 0, .slice none 0 0] 56))
      have HK2 := Lib.hid (show (((wr.alloc (.cells #[.int .i64 0, .string ⟨#[]⟩, .slice none 0 0, .slice none 0 0, .slice none 0 0, .slice none 0 0] 56)).setRow wr.heap.size #[.int .i64 x.base, .string x.fields, .slice pa2 pl2 pc2, .slice pa3 pl3 pc3, .slice pa4 pl4 pc4, .slice pa5 pl5 pc5]).alloc (.cells #[.int .i64 0, .string ⟨#[]⟩, .slice none 0 0, .slice none 0 0, .slice none 0 0, .slice none 0 0] 56)).heap[wr.heap.size + 1]? = some (.cells #[.int .i64 0, .string ⟨#[]⟩, .slice none 0 0, .slice none 0 0, .slice none 0 0, .slice none 0 0] 56 (0, 0)) by have := heap_alloc_new ((wr.alloc (.cells #[.int .i64 0, .string ⟨#[]⟩, .slice none 0 0, .slice none 0 0, .slice none 0 0, .slice none 0 0] 56)).setRow wr.heap.size #[.int .i64 x.base, .string x.fields, .slice pa2 pl2 pc2, .slice pa3 pl3 pc3, .slice pa4 pl4 pc4, .slice pa5 pl5 pc5]) (.cells #[.int .i64 0, .string ⟨#[]⟩, .slice none 0 0, .slice none 0 0, .slice none 0 0, .slice none 0 0] 56); rw [hz1] at this; exact this)
      have HX8 := Lib.hid (show ((((wr.alloc (.cells #[.int .i64 0, .string ⟨#[]⟩, .slice none 0 0, .slice none 0 0, .slice none 0 0, .slice none 0 0] 56)).setRow wr.heap.size #[.int .i64 x.base, .string x.fields, .slice pa2 pl2 pc2, .slice pa3 pl3 pc3, .slice pa4 pl4 pc4, .slice pa5 pl5 pc5]).alloc (.cells #[.int .i64 0, .string ⟨#[]⟩, .slice none 0 0, .slice none 0 0, .slice none 0 0, .slice none 0 0] 56)).setRow (wr.heap.size + 1) #[.int .i64 y.base, .string y.fields, .slice qa2 ql2 qc2, .slice qa3 ql3 qc3, .slice qa4 ql4 qc4, .slice qa5 ql5 qc5]).heap[wr.heap.size]? = some (.cells #[.int .i64 x.base, .string x.fields, .slice pa2 pl2 pc2, .slice pa3 pl3 pc3, .slice pa4 pl4 pc4, .slice pa5 pl5 pc5] 56 (0, 0)) from (rowT_other _ _ _ _ (by omega)).trans ((Below.heap_alloc _ _ _ (by rw [hz1]; omega)).trans (boxT_is wr #[.int .i64 0, .string ⟨#[]⟩, .slice none 0 0, .slice none 0 0, .slice none 0 0, .slice none 0 0] #[.int .i64 x.base, .string x.fields, .slice pa2 pl2 pc2, .slice pa3 pl3 pc3, .slice pa4 pl4 pc4, .slice pa5 pl5 pc5] 56)))
      have HX9 := Lib.hid (show ((((wr.alloc (.cells #[.int .i64 0, .string ⟨#[]⟩, .slice none 0 0, .slice none 0 0, .slice none 0 0, .slice none 0 0] 56)).setRow wr.heap.size #[.int .i64 x.base, .string x.fields, .slice pa2 pl2 pc2, .slice pa3 pl3 pc3, .slice pa4 pl4 pc4, .slice pa5 pl5 pc5]).alloc (.cells #[.int .i64 0, .string ⟨#[]⟩, .slice none 0 0, .slice none 0 0, .slice none 0 0, .slice none 0 0] 56)).setRow (wr.heap.size + 1) #[.int .i64 y.base, .string y.fields, .slice qa2 ql2 qc2, .slice qa3 ql3 qc3, .slice qa4 ql4 qc4, .slice qa5 ql5 qc5]).heap[wr.heap.size + 1]? = some (.cells #[.int .i64 y.base, .string y.fields, .slice qa2 ql2 qc2, .slice qa3 ql3 qc3, .slice qa4 ql4 qc4, .slice qa5 ql5 qc5] 56 (0, 0)) from rowT_same #[.int .i64 y.base, .string y.fields, .slice qa2 ql2 qc2, .slice qa3 ql3 qc3, .slice qa4 ql4 qc4, .slice qa5 ql5 qc5] HK2.out)
      have HBX := Lib.hid (show Below wr.heap.size wr ((((wr.alloc (.cells #[.int .i64 0, .string ⟨#[]⟩, .slice none 0 0, .slice none 0 0, .slice none 0 0, .slice none 0 0] 56)).setRow wr.heap.size #[.int .i64 x.base, .string x.fields, .slice pa2 pl2 pc2, .slice pa3 pl3 pc3, .slice pa4 pl4 pc4, .slice pa5 pl5 pc5]).alloc (.cells #[.int .i64 0, .string ⟨#[]⟩, .slice none 0 0, .slice none 0 0, .slice none 0 0, .slice none 0 0] 56)).setRow (wr.heap.size + 1) #[.int .i64 y.base, .string y.fields, .slice qa2 ql2 qc2, .slice qa3 ql3 qc3, .slice qa4 ql4 qc4, .slice qa5 ql5 qc5]) from rowT_below ((rowT_below ((Below.refl wr.heap.size wr).alloc (Nat.le_refl _) (.cells #[.int .i64 0, .string ⟨#[]⟩, .slice none 0 0, .slice none 0 0, .slice none 0 0, .slice none 0 0] 56)) (Nat.le_refl _) #[.int .i64 x.base, .string x.fields, .slice pa2 pl2 pc2, .slice pa3 pl3 pc3, .slice pa4 pl4 pc4, .slice pa5 pl5 pc5]).alloc (by rw [hz1]; omega) (.cells #[.int .i64 0, .string ⟨#[]⟩, .slice none 0 0, .slice none 0 0, .slice none 0 0, .slice none 0 0] 56)) (Nat.le_succ _) #[.int .i64 y.base, .string y.fields, .slice qa2 ql2 qc2, .slice qa3 ql3 qc3, .slice qa4 ql4 qc4, .slice qa5 ql5 qc5])
      have hone1 : (#[.int .i64 x.base, .string x.fields, .slice pa2 pl2 pc2, .slice pa3 pl3 pc3, .slice pa4 pl4 pc4, .slice pa5 pl5 pc5] : Array Value).all (·.oneCell') = true := by simp [Value.oneCell']
      have hone2 : (#[.int .i64 y.base, .string y.fields, .slice qa2 ql2 qc2, .slice qa3 ql3 qc3, .slice qa4 ql4 qc4, .slice qa5 ql5 qc5] : Array Value).all (·.oneCell') = true := by simp [Value.oneCell']
      have hcc := hc0 _ HBX.out (by have := hbw.size; omega)
      have hc : Calls Tryz.prog 36 #[.agg #[.int .i64 x.base, .string x.fields, .slice pa2 pl2 pc2, .slice pa3 pl3 pc3, .slice pa4 pl4 pc4, .slice pa5 pl5 pc5], .agg #[.int .i64 y.base, .string y.fields, .slice qa2 ql2 qc2, .slice qa3 ql3 qc3, .slice qa4 ql4 qc4, .slice qa5 ql5 qc5]] ((((wr.alloc (.cells #[.int .i64 0, .string ⟨#[]⟩, .slice none 0 0, .slice none 0 0, .slice none 0 0, .slice none 0 0] 56)).setRow wr.heap.size #[.int .i64 x.base, .string x.fields, .slice pa2 pl2 pc2, .slice pa3 pl3 pc3, .slice pa4 pl4 pc4, .slice pa5 pl5 pc5]).alloc (.cells #[.int .i64 0, .string ⟨#[]⟩, .slice none 0 0, .slice none 0 0, .slice none 0 0, .slice none 0 0] 56)).setRow (wr.heap.size + 1) #[.int .i64 y.base, .string y.fields, .slice qa2 ql2 qc2, .slice qa3 ql3 qc3, .slice qa4 ql4 qc4, .slice qa5 ql5 qc5]) _ := hcc
      clear hcc
      have HXX := Lib.hid hx
      have HXY := Lib.hid hx'
      clear hba hbb hrA hrB hbw hx hx' iA iB hc0
      go_wp2_with (first | (refine wpList_store_row rfl 56 (.tmp 8) (.tmp 21) rfl wr.heap.size #[.int .i64 x.base, .string x.fields, .slice pa2 pl2 pc2, .slice pa3 pl3 pc3, .slice pa4 pl4 pc4, .slice pa5 pl5 pc5] rfl rfl 56 #[.int .i64 0, .string ⟨#[]⟩, .slice none 0 0, .slice none 0 0, .slice none 0 0, .slice none 0 0] HK1.out size56s rfl hone1 ?_) | (refine wpList_store_row rfl 56 (.tmp 9) (.tmp 25) rfl (wr.heap.size + 1) #[.int .i64 y.base, .string y.fields, .slice qa2 ql2 qc2, .slice qa3 ql3 qc3, .slice qa4 ql4 qc4, .slice qa5 ql5 qc5] rfl rfl 56 #[.int .i64 0, .string ⟨#[]⟩, .slice none 0 0, .slice none 0 0, .slice none 0 0, .slice none 0 0] HK2.out size56s rfl hone2 ?_) | (refine wpList_load_row rfl 56 (.tmp 8) rfl wr.heap.size rfl 56 #[.int .i64 x.base, .string x.fields, .slice pa2 pl2 pc2, .slice pa3 pl3 pc3, .slice pa4 pl4 pc4, .slice pa5 pl5 pc5] (0, 0) _ HX8.out Tryz.underlying56 rfl size56s ?_) | (refine wpList_load_row rfl 56 (.tmp 9) rfl (wr.heap.size + 1) rfl 56 #[.int .i64 y.base, .string y.fields, .slice qa2 ql2 qc2, .slice qa3 ql3 qc3, .slice qa4 ql4 qc4, .slice qa5 ql5 qc5] (0, 0) _ HX9.out Tryz.underlying56 rfl size56s ?_) | (go_at_call 36; refine hc.mono ?_))
      first | rintro e V ⟨⟨β, rfl, hβ⟩, hb⟩ | rintro e V ⟨β, rfl, hβ⟩ hb
      have HB2 := Lib.hid ((HBW.out.trans (HBX.out.mono HBW.out.size)).trans (hb.mono (Nat.le_trans HBW.out.size HBX.out.size)))
      clear hone1 hone2 hz1
      clear hc hb e0 d0 e1 d1 e2 d2 e3 d3 e4 d4 e5 d5
      cases β with
      | false =>
        have HNE := Lib.hid (show xs ≠ ys from fun h => by
          have h9 := HXX.out
          rw [h, HXY.out] at h9
          have := hβ.2 (Option.some.inj h9).symm
          cases this)
        clear hβ
        go_wp2_with fail
        go_returns
        exact ⟨⟨false, rfl, by simp [HNE.out]⟩, HB2.out⟩
      | true =>
        have hxy := hβ.1 rfl
        subst hxy
        clear hβ
        go_wp2_with fail
        refine ⟨⟨k + 1, by omega, by go_num, HB2.out, ?_⟩, by simp [intOf]; omega⟩
        intro j hj
        rcases Nat.lt_or_ge j k with h | h
        · exact HSM.out j h
        · rw [show j = k by omega, HXX.out, HXY.out]
    · have HEQ := Lib.hid (all_one (hlen.trans hlen'.symm) (fun j hj => HSM.out j (by omega)))
      clear hbw
      obtain rfl : k = l := by omega
      go_wp2_with fail
      go_returns
      exact ⟨⟨true, rfl, by simp [HEQ.out]⟩, HBW.out⟩

set_option maxHeartbeats 8000000 in
set_option maxRecDepth 100000 in
theorem sm_code : Sm 38 [] mkA shCode := by
  intro lim W vs us x y h1 h2 hl
  obtain ⟨pa5, pl5, pc5, rfl, hp5⟩ := code_is.1 h1
  obtain ⟨qa5, ql5, qc5, rfl, hq5⟩ := code_is.1 h2
  clear h1 h2
  rcases x with ⟨x0, x1, x2, x3, x4, x5⟩
  rcases y with ⟨y0, y1, y2, y3, y4, y5⟩
  have HP5 := Lib.hid (show Row shOp (fun k => k < lim) W pa5 pl5 x5 from hp5)
  have HQ5 := Lib.hid (show Row shOp (fun k => k < lim) W qa5 ql5 y5 from hq5)
  have HB0 := Lib.hid (((Below.refl W.heap.size W).alloc (Nat.le_refl _) (.cells #[.int .i64 x0, .string x1, .string x2, .bool x3, .int .i64 x4, .slice pa5 pl5 pc5] 61)).alloc (by simp) (.cells #[.int .i64 y0, .string y1, .string y2, .bool y3, .int .i64 y4, .slice qa5 ql5 qc5] 61))
  have HX0 := Lib.hid ((Below.heap_alloc (W.alloc (.cells #[.int .i64 x0, .string x1, .string x2, .bool x3, .int .i64 x4, .slice pa5 pl5 pc5] 61)) (.cells #[.int .i64 y0, .string y1, .string y2, .bool y3, .int .i64 y4, .slice qa5 ql5 qc5] 61) W.heap.size (by simp)).trans (heap_alloc_new W (.cells #[.int .i64 x0, .string x1, .string x2, .bool x3, .int .i64 x4, .slice pa5 pl5 pc5] 61)))
  have HY0 := Lib.hid (show ((W.alloc (.cells #[.int .i64 x0, .string x1, .string x2, .bool x3, .int .i64 x4, .slice pa5 pl5 pc5] 61)).alloc (.cells #[.int .i64 y0, .string y1, .string y2, .bool y3, .int .i64 y4, .slice qa5 ql5 qc5] 61)).heap[W.heap.size + 1]? = some (.cells #[.int .i64 y0, .string y1, .string y2, .bool y3, .int .i64 y4, .slice qa5 ql5 qc5] 61 (0, 0)) by have := heap_alloc_new (W.alloc (.cells #[.int .i64 x0, .string x1, .string x2, .bool x3, .int .i64 x4, .slice pa5 pl5 pc5] 61)) (.cells #[.int .i64 y0, .string y1, .string y2, .bool y3, .int .i64 y4, .slice qa5 ql5 qc5] 61); rw [show (W.alloc (.cells #[.int .i64 x0, .string x1, .string x2, .bool x3, .int .i64 x4, .slice pa5 pl5 pc5] 61)).heap.size = W.heap.size + 1 by simp] at this; exact this)
  clear hp5 hq5
  show Calls Tryz.prog 38 #[.agg #[.int .i64 x0, .string x1, .string x2, .bool x3, .int .i64 x4, .slice pa5 pl5 pc5], .agg #[.int .i64 y0, .string y1, .string y2, .bool y3, .int .i64 y4, .slice qa5 ql5 qc5]] W _
  go_enter Tryz.func38, Tryz.ntmps38
  have e0 : ((W.alloc (.cells #[.int .i64 x0, .string x1, .string x2, .bool x3, .int .i64 x4, .slice pa5 pl5 pc5] 61)).alloc (.cells #[.int .i64 y0, .string y1, .string y2, .bool y3, .int .i64 y4, .slice qa5 ql5 qc5] 61)).cell? ⟨W.heap.size, 0, none⟩ = some (.int .i64 x0) := by rw [Lib.cell_of_heap HX0.out]; rfl
  have d0 : ((W.alloc (.cells #[.int .i64 x0, .string x1, .string x2, .bool x3, .int .i64 x4, .slice pa5 pl5 pc5] 61)).alloc (.cells #[.int .i64 y0, .string y1, .string y2, .bool y3, .int .i64 y4, .slice qa5 ql5 qc5] 61)).cell? ⟨W.heap.size + 1, 0, none⟩ = some (.int .i64 y0) := by rw [Lib.cell_of_heap HY0.out]; rfl
  have e1 : ((W.alloc (.cells #[.int .i64 x0, .string x1, .string x2, .bool x3, .int .i64 x4, .slice pa5 pl5 pc5] 61)).alloc (.cells #[.int .i64 y0, .string y1, .string y2, .bool y3, .int .i64 y4, .slice qa5 ql5 qc5] 61)).cell? ⟨W.heap.size, 1, none⟩ = some (.string x1) := by rw [Lib.cell_of_heap HX0.out]; rfl
  have d1 : ((W.alloc (.cells #[.int .i64 x0, .string x1, .string x2, .bool x3, .int .i64 x4, .slice pa5 pl5 pc5] 61)).alloc (.cells #[.int .i64 y0, .string y1, .string y2, .bool y3, .int .i64 y4, .slice qa5 ql5 qc5] 61)).cell? ⟨W.heap.size + 1, 1, none⟩ = some (.string y1) := by rw [Lib.cell_of_heap HY0.out]; rfl
  have e2 : ((W.alloc (.cells #[.int .i64 x0, .string x1, .string x2, .bool x3, .int .i64 x4, .slice pa5 pl5 pc5] 61)).alloc (.cells #[.int .i64 y0, .string y1, .string y2, .bool y3, .int .i64 y4, .slice qa5 ql5 qc5] 61)).cell? ⟨W.heap.size, 2, none⟩ = some (.string x2) := by rw [Lib.cell_of_heap HX0.out]; rfl
  have d2 : ((W.alloc (.cells #[.int .i64 x0, .string x1, .string x2, .bool x3, .int .i64 x4, .slice pa5 pl5 pc5] 61)).alloc (.cells #[.int .i64 y0, .string y1, .string y2, .bool y3, .int .i64 y4, .slice qa5 ql5 qc5] 61)).cell? ⟨W.heap.size + 1, 2, none⟩ = some (.string y2) := by rw [Lib.cell_of_heap HY0.out]; rfl
  have e3 : ((W.alloc (.cells #[.int .i64 x0, .string x1, .string x2, .bool x3, .int .i64 x4, .slice pa5 pl5 pc5] 61)).alloc (.cells #[.int .i64 y0, .string y1, .string y2, .bool y3, .int .i64 y4, .slice qa5 ql5 qc5] 61)).cell? ⟨W.heap.size, 3, none⟩ = some (.bool x3) := by rw [Lib.cell_of_heap HX0.out]; rfl
  have d3 : ((W.alloc (.cells #[.int .i64 x0, .string x1, .string x2, .bool x3, .int .i64 x4, .slice pa5 pl5 pc5] 61)).alloc (.cells #[.int .i64 y0, .string y1, .string y2, .bool y3, .int .i64 y4, .slice qa5 ql5 qc5] 61)).cell? ⟨W.heap.size + 1, 3, none⟩ = some (.bool y3) := by rw [Lib.cell_of_heap HY0.out]; rfl
  have e4 : ((W.alloc (.cells #[.int .i64 x0, .string x1, .string x2, .bool x3, .int .i64 x4, .slice pa5 pl5 pc5] 61)).alloc (.cells #[.int .i64 y0, .string y1, .string y2, .bool y3, .int .i64 y4, .slice qa5 ql5 qc5] 61)).cell? ⟨W.heap.size, 4, none⟩ = some (.int .i64 x4) := by rw [Lib.cell_of_heap HX0.out]; rfl
  have d4 : ((W.alloc (.cells #[.int .i64 x0, .string x1, .string x2, .bool x3, .int .i64 x4, .slice pa5 pl5 pc5] 61)).alloc (.cells #[.int .i64 y0, .string y1, .string y2, .bool y3, .int .i64 y4, .slice qa5 ql5 qc5] 61)).cell? ⟨W.heap.size + 1, 4, none⟩ = some (.int .i64 y4) := by rw [Lib.cell_of_heap HY0.out]; rfl
  have e5 : ((W.alloc (.cells #[.int .i64 x0, .string x1, .string x2, .bool x3, .int .i64 x4, .slice pa5 pl5 pc5] 61)).alloc (.cells #[.int .i64 y0, .string y1, .string y2, .bool y3, .int .i64 y4, .slice qa5 ql5 qc5] 61)).cell? ⟨W.heap.size, 5, none⟩ = some (.slice pa5 pl5 pc5) := by rw [Lib.cell_of_heap HX0.out]; rfl
  have d5 : ((W.alloc (.cells #[.int .i64 x0, .string x1, .string x2, .bool x3, .int .i64 x4, .slice pa5 pl5 pc5] 61)).alloc (.cells #[.int .i64 y0, .string y1, .string y2, .bool y3, .int .i64 y4, .slice qa5 ql5 qc5] 61)).cell? ⟨W.heap.size + 1, 5, none⟩ = some (.slice qa5 ql5 qc5) := by rw [Lib.cell_of_heap HY0.out]; rfl
  by_cases m0 : x0 = y0
  rotate_left
  · have n0 := m0
    clear m0
    have b0 : (x0 == y0) = false := by simp [n0]
    have HNE := Lib.hid (show (⟨x0, x1, x2, x3, x4, x5⟩ : CodeD) ≠ ⟨y0, y1, y2, y3, y4, y5⟩ from fun h => n0 (by cases h; rfl))
    clear n0
    go_wp2_with fail
    go_returns
    exact ⟨⟨false, rfl, by simp only [Bool.false_eq_true, false_iff]; exact HNE.out⟩, HB0.out⟩
  subst m0
  by_cases m1 : x1 = y1
  rotate_left
  · have n1 := m1
    clear m1
    have b1 := str_ne n1
    have HNE := Lib.hid (show (⟨x0, x1, x2, x3, x4, x5⟩ : CodeD) ≠ ⟨x0, y1, y2, y3, y4, y5⟩ from fun h => n1 (by cases h; rfl))
    clear n1
    go_wp2_with fail
    go_returns
    exact ⟨⟨false, rfl, by simp only [Bool.false_eq_true, false_iff]; exact HNE.out⟩, HB0.out⟩
  subst m1
  by_cases m2 : x2 = y2
  rotate_left
  · have n2 := m2
    clear m2
    have b2 := str_ne n2
    have HNE := Lib.hid (show (⟨x0, x1, x2, x3, x4, x5⟩ : CodeD) ≠ ⟨x0, x1, y2, y3, y4, y5⟩ from fun h => n2 (by cases h; rfl))
    clear n2
    go_wp2_with fail
    go_returns
    exact ⟨⟨false, rfl, by simp only [Bool.false_eq_true, false_iff]; exact HNE.out⟩, HB0.out⟩
  subst m2
  by_cases m3 : x3 = y3
  rotate_left
  · have n3 := m3
    clear m3
    have b3 : (x3 == y3) = false := by simp [n3]
    have HNE := Lib.hid (show (⟨x0, x1, x2, x3, x4, x5⟩ : CodeD) ≠ ⟨x0, x1, x2, y3, y4, y5⟩ from fun h => n3 (by cases h; rfl))
    clear n3
    go_wp2_with fail
    go_returns
    exact ⟨⟨false, rfl, by simp only [Bool.false_eq_true, false_iff]; exact HNE.out⟩, HB0.out⟩
  subst m3
  by_cases m4 : x4 = y4
  rotate_left
  · have n4 := m4
    clear m4
    have b4 : (x4 == y4) = false := by simp [n4]
    have HNE := Lib.hid (show (⟨x0, x1, x2, x3, x4, x5⟩ : CodeD) ≠ ⟨x0, x1, x2, x3, y4, y5⟩ from fun h => n4 (by cases h; rfl))
    clear n4
    go_wp2_with fail
    go_returns
    exact ⟨⟨false, rfl, by simp only [Bool.false_eq_true, false_iff]; exact HNE.out⟩, HB0.out⟩
  subst m4
  have hc : Calls Tryz.prog 72 #[.slice pa5 pl5 pc5, .slice qa5 ql5 qc5] ((W.alloc (.cells #[.int .i64 x0, .string x1, .string x2, .bool x3, .int .i64 x4, .slice pa5 pl5 pc5] 61)).alloc (.cells #[.int .i64 x0, .string x1, .string x2, .bool x3, .int .i64 x4, .slice qa5 ql5 qc5] 61)) _ := sm_ops lim ((W.alloc (.cells #[.int .i64 x0, .string x1, .string x2, .bool x3, .int .i64 x4, .slice pa5 pl5 pc5] 61)).alloc (.cells #[.int .i64 x0, .string x1, .string x2, .bool x3, .int .i64 x4, .slice qa5 ql5 qc5] 61)) [.slice pa5 pl5 pc5] [.slice qa5 ql5 qc5] x5 y5 (slice_is.2 ⟨_, _, _, rfl, HP5.out.keep (fun k hk => HB0.out.block k (by omega))⟩) (slice_is.2 ⟨_, _, _, rfl, HQ5.out.keep (fun k hk => HB0.out.block k (by omega))⟩) (Nat.le_trans hl HB0.out.size)
  go_wp2_with (go_at_call 72; refine hc.mono ?_)
  first | rintro e V1 ⟨⟨β, rfl, hβ⟩, hb⟩ | rintro e V1 β rfl hβ hb | rintro e V1 ⟨β, rfl, hβ⟩ hb
  have HB1 := Lib.hid (HB0.out.trans (hb.mono HB0.out.size))
  clear hc hb
  clear e0 d0 e1 d1 e2 d2 e3 d3 e4 d4 e5 d5
  cases β with
  | false =>
    have n5 : ¬ x5 = y5 := fun h => by have := hβ.2 h; cases this
    clear hβ
    have HNE := Lib.hid (show (⟨x0, x1, x2, x3, x4, x5⟩ : CodeD) ≠ ⟨x0, x1, x2, x3, x4, y5⟩ from fun h => n5 (by cases h; rfl))
    clear n5
    go_wp2_with fail
    go_returns
    exact ⟨⟨false, rfl, by simp only [Bool.false_eq_true, false_iff]; exact HNE.out⟩, HB1.out⟩
  | true =>
  have m5 := hβ.1 rfl
  clear hβ
  subst m5
  go_wp2_with fail
  go_returns
  refine ⟨?_, HB1.out⟩
  first | exact ⟨true, rfl, by simp⟩ | rfl

set_option maxHeartbeats 3200000 in
set_option maxRecDepth 100000 in
theorem sm_codes : Sm 37 [.func (.func 38) #[] #[]] mk1 (shSlice shCode) := by
  intro lim W vs us xs ys h1 h2 hl
  obtain ⟨a, l, c, rfl, hr⟩ := slice_is.1 h1
  obtain ⟨a', l', c', rfl, hr'⟩ := slice_is.1 h2
  have HR := Lib.hid hr
  have HR' := Lib.hid hr'
  have hml : l ≤ 9223372036854775807 := by have := hr.le; unfold maxLen at this; omega
  clear h1 h2
  by_cases hnl : ¬ l = l'
  · have hll := hnl
    have hl2 : ((l : Int) != (l' : Int)) = true := by simp; omega
    have hne : xs ≠ ys := fun h => hll (by rw [← hr.1, ← hr'.1, h])
    clear hr hr'
    show Calls Tryz.prog 37 #[.slice a l c, .slice a' l' c', .func (.func 38) #[] #[]] W _
    go_enter Tryz.func37, Tryz.ntmps37
    go_wp2_with fail
    go_returns
    exact ⟨⟨false, rfl, by simp [hne]⟩, Below.refl _ _⟩
  obtain rfl := Decidable.not_not.1 hnl
  clear hnl
  have hl2 : ((l : Int) != (l : Int)) = false := by simp
  have hlen := hr.1
  have hlen' := hr'.1
  clear hr hr'
  show Calls Tryz.prog 37 #[.slice a l c, .slice a' l c', .func (.func 38) #[] #[]] W _
  go_enter Tryz.func37, Tryz.ntmps37
  go_wp2_with fail
  go_loopw [17] (fun i wr => ∃ k : Nat, k ≤ l ∧ i = .int .i64 k ∧ Below W.heap.size W wr ∧ (∀ j, j < k → xs[j]? = ys[j]?)) (fun i _ => l - (intOf i).toNat)
  case atStart => exact ⟨0, Nat.zero_le _, rfl, Below.refl _ _, fun j hj => absurd hj (Nat.not_lt_zero j)⟩
  case round =>
    obtain ⟨k, hk, rfl, hbw, hsame⟩ := hrel
    have HBW := Lib.hid hbw
    have HSM := Lib.hid hsame
    clear hsame
    by_cases hlt : k < l
    · have hrA : Row shCode (fun k => k < lim) wr a l xs := HR.out.keep (fun k hk => hbw.block k (by omega))
      have hrB : Row shCode (fun k => k < lim) wr a' l ys := HR'.out.keep (fun k hk => hbw.block k (by omega))
      obtain ⟨ba, oa, x, vs, rfl, hSa, hx, hba, iA⟩ := hrA.item hlt
      obtain ⟨bb, ob, y, us, rfl, hSb, hx', hbb, iB⟩ := hrB.item hlt
      have i0 : (k : Int) < (l : Int) := by omega
      have i1 : (0 : Int) ≤ (k : Int) := by omega
      have hc0 := fun (V : World) (hv : Below wr.heap.size wr V) (hlw : lim ≤ wr.heap.size) => sm_code lim V vs us x y (shCode.keep (fun k hk => hv.block k (by omega)) iA) (shCode.keep (fun k hk => hv.block k (by omega)) iB) (Nat.le_trans hlw hv.size)
      obtain ⟨pa5, pl5, pc5, rfl, -⟩ := code_is.1 iA
      obtain ⟨qa5, ql5, qc5, rfl, -⟩ := code_is.1 iB
      have e0 : wr.cell? ⟨ba, oa + k * 6, none⟩ = some (.int .i64 x.cls) := hba 0 _ rfl
      have e1 : wr.cell? ⟨ba, oa + k * 6 + 1, none⟩ = some (.string x.params) := hba 1 _ rfl
      have e2 : wr.cell? ⟨ba, oa + k * 6 + 2, none⟩ = some (.string x.locals) := hba 2 _ rfl
      have e3 : wr.cell? ⟨ba, oa + k * 6 + 3, none⟩ = some (.bool x.ret) := hba 3 _ rfl
      have e4 : wr.cell? ⟨ba, oa + k * 6 + 4, none⟩ = some (.int .i64 x.stack) := hba 4 _ rfl
      have e5 : wr.cell? ⟨ba, oa + k * 6 + 5, none⟩ = some (.slice pa5 pl5 pc5) := hba 5 _ rfl
      have hz1 : ((wr.alloc (.cells #[.int .i64 0, .string ⟨#[]⟩, .string ⟨#[]⟩, .bool false, .int .i64 0, .slice none 0 0] 61)).setRow wr.heap.size #[.int .i64 x.cls, .string x.params, .string x.locals, .bool x.ret, .int .i64 x.stack, .slice pa5 pl5 pc5]).heap.size = wr.heap.size + 1 := by simp [World.setRow]
      have d0 : ((wr.alloc (.cells #[.int .i64 0, .string ⟨#[]⟩, .string ⟨#[]⟩, .bool false, .int .i64 0, .slice none 0 0] 61)).setRow wr.heap.size #[.int .i64 x.cls, .string x.params, .string x.locals, .bool x.ret, .int .i64 x.stack, .slice pa5 pl5 pc5]).cell? ⟨bb, ob + k * 6, none⟩ = some (.int .i64 y.cls) := by
        rw [World.cell?_of_block (a := ⟨bb, ob + k * 6, none⟩) (boxT_keep wr #[.int .i64 0, .string ⟨#[]⟩, .string ⟨#[]⟩, .bool false, .int .i64 0, .slice none 0 0] #[.int .i64 x.cls, .string x.params, .string x.locals, .bool x.ret, .int .i64 x.stack, .slice pa5 pl5 pc5] 61 bb (by have := hbw.size; omega))]
        exact hbb 0 _ rfl
      have d1 : ((wr.alloc (.cells #[.int .i64 0, .string ⟨#[]⟩, .string ⟨#[]⟩, .bool false, .int .i64 0, .slice none 0 0] 61)).setRow wr.heap.size #[.int .i64 x.cls, .string x.params, .string x.locals, .bool x.ret, .int .i64 x.stack, .slice pa5 pl5 pc5]).cell? ⟨bb, ob + k * 6 + 1, none⟩ = some (.string y.params) := by
        rw [World.cell?_of_block (a := ⟨bb, ob + k * 6 + 1, none⟩) (boxT_keep wr #[.int .i64 0, .string ⟨#[]⟩, .string ⟨#[]⟩, .bool false, .int .i64 0, .slice none 0 0] #[.int .i64 x.cls, .string x.params, .string x.locals, .bool x.ret, .int .i64 x.stack, .slice pa5 pl5 pc5] 61 bb (by have := hbw.size; omega))]
        exact hbb 1 _ rfl
      have d2 : ((wr.alloc (.cells #[.int .i64 0, .string ⟨#[]⟩, .string ⟨#[]⟩, .bool false, .int .i64 0, .slice none 0 0] 61)).setRow wr.heap.size #[.int .i64 x.cls, .string x.params, .string x.locals, .bool x.ret, .int .i64 x.stack, .slice pa5 pl5 pc5]).cell? ⟨bb, ob + k * 6 + 2, none⟩ = some (.string y.locals) := by
        rw [World.cell?_of_block (a := ⟨bb, ob + k * 6 + 2, none⟩) (boxT_keep wr #[.int .i64 0, .string ⟨#[]⟩, .string ⟨#[]⟩, .bool false, .int .i64 0, .slice none 0 0] #[.int .i64 x.cls, .string x.params, .string x.locals, .bool x.ret, .int .i64 x.stack, .slice pa5 pl5 pc5] 61 bb (by have := hbw.size; omega))]
        exact hbb 2 _ rfl
      have d3 : ((wr.alloc (.cells #[.int .i64 0, .string ⟨#[]⟩, .string ⟨#[]⟩, .bool false, .int .i64 0, .slice none 0 0] 61)).setRow wr.heap.size #[.int .i64 x.cls, .string x.params, .string x.locals, .bool x.ret, .int .i64 x.stack, .slice pa5 pl5 pc5]).cell? ⟨bb, ob + k * 6 + 3, none⟩ = some (.bool y.ret) := by
        rw [World.cell?_of_block (a := ⟨bb, ob + k * 6 + 3, none⟩) (boxT_keep wr #[.int .i64 0, .string ⟨#[]⟩, .string ⟨#[]⟩, .bool false, .int .i64 0, .slice none 0 0] #[.int .i64 x.cls, .string x.params, .string x.locals, .bool x.ret, .int .i64 x.stack, .slice pa5 pl5 pc5] 61 bb (by have := hbw.size; omega))]
        exact hbb 3 _ rfl
      have d4 : ((wr.alloc (.cells #[.int .i64 0, .string ⟨#[]⟩, .string ⟨#[]⟩, .bool false, .int .i64 0, .slice none 0 0] 61)).setRow wr.heap.size #[.int .i64 x.cls, .string x.params, .string x.locals, .bool x.ret, .int .i64 x.stack, .slice pa5 pl5 pc5]).cell? ⟨bb, ob + k * 6 + 4, none⟩ = some (.int .i64 y.stack) := by
        rw [World.cell?_of_block (a := ⟨bb, ob + k * 6 + 4, none⟩) (boxT_keep wr #[.int .i64 0, .string ⟨#[]⟩, .string ⟨#[]⟩, .bool false, .int .i64 0, .slice none 0 0] #[.int .i64 x.cls, .string x.params, .string x.locals, .bool x.ret, .int .i64 x.stack, .slice pa5 pl5 pc5] 61 bb (by have := hbw.size; omega))]
        exact hbb 4 _ rfl
      have d5 : ((wr.alloc (.cells #[.int .i64 0, .string ⟨#[]⟩, .string ⟨#[]⟩, .bool false, .int .i64 0, .slice none 0 0] 61)).setRow wr.heap.size #[.int .i64 x.cls, .string x.params, .string x.locals, .bool x.ret, .int .i64 x.stack, .slice pa5 pl5 pc5]).cell? ⟨bb, ob + k * 6 + 5, none⟩ = some (.slice qa5 ql5 qc5) := by
        rw [World.cell?_of_block (a := ⟨bb, ob + k * 6 + 5, none⟩) (boxT_keep wr #[.int .i64 0, .string ⟨#[]⟩, .string ⟨#[]⟩, .bool false, .int .i64 0, .slice none 0 0] #[.int .i64 x.cls, .string x.params, .string x.locals, .bool x.ret, .int .i64 x.stack, .slice pa5 pl5 pc5] 61 bb (by have := hbw.size; omega))]
        exact hbb 5 _ rfl
      have HK1 := Lib.hid (heap_alloc_new wr (.cells #[.int .i64 0, .string ⟨#[]⟩, .string ⟨#[]⟩, .bool false, .int .i64 0, .slice none 0 0] 61))
      have HK2 := Lib.hid (show (((wr.alloc (.cells #[.int .i64 0, .string ⟨#[]⟩, .string ⟨#[]⟩, .bool false, .int .i64 0, .slice none 0 0] 61)).setRow wr.heap.size #[.int .i64 x.cls, .string x.params, .string x.locals, .bool x.ret, .int .i64 x.stack, .slice pa5 pl5 pc5]).alloc (.cells #[.int .i64 0, .string ⟨#[]⟩, .string ⟨#[]⟩, .bool false, .int .i64 0, .slice none 0 0] 61)).heap[wr.heap.size + 1]? = some (.cells #[.int .i64 0, .string ⟨#[]⟩, .string ⟨#[]⟩, .bool false, .int .i64 0, .slice none 0 0] 61 (0, 0)) by have := heap_alloc_new ((wr.alloc (.cells #[.int .i64 0, .string ⟨#[]⟩, .string ⟨#[]⟩, .bool false, .int .i64 0, .slice none 0 0] 61)).setRow wr.heap.size #[.int .i64 x.cls, .string x.params, .string x.locals, .bool x.ret, .int .i64 x.stack, .slice pa5 pl5 pc5]) (.cells #[.int .i64 0, .string ⟨#[]⟩, .string ⟨#[]⟩, .bool false, .int .i64 0, .slice none 0 0] 61); rw [hz1] at this; exact this)
      have HX8 := Lib.hid (show ((((wr.alloc (.cells #[.int .i64 0, .string ⟨#[]⟩, .string ⟨#[]⟩, .bool false, .int .i64 0, .slice none 0 0] 61)).setRow wr.heap.size #[.int .i64 x.cls, .string x.params, .string x.locals, .bool x.ret, .int .i64 x.stack, .slice pa5 pl5 pc5]).alloc (.cells #[.int .i64 0, .string ⟨#[]⟩, .string ⟨#[]⟩, .bool false, .int .i64 0, .slice none 0 0] 61)).setRow (wr.heap.size + 1) #[.int .i64 y.cls, .string y.params, .string y.locals, .bool y.ret, .int .i64 y.stack, .slice qa5 ql5 qc5]).heap[wr.heap.size]? = some (.cells #[.int .i64 x.cls, .string x.params, .string x.locals, .bool x.ret, .int .i64 x.stack, .slice pa5 pl5 pc5] 61 (0, 0)) from (rowT_other _ _ _ _ (by omega)).trans ((Below.heap_alloc _ _ _ (by rw [hz1]; omega)).trans (boxT_is wr #[.int .i64 0, .string ⟨#[]⟩, .string ⟨#[]⟩, .bool false, .int .i64 0, .slice none 0 0] #[.int .i64 x.cls, .string x.params, .string x.locals, .bool x.ret, .int .i64 x.stack, .slice pa5 pl5 pc5] 61)))
      have HX9 := Lib.hid (show ((((wr.alloc (.cells #[.int .i64 0, .string ⟨#[]⟩, .string ⟨#[]⟩, .bool false, .int .i64 0, .slice none 0 0] 61)).setRow wr.heap.size #[.int .i64 x.cls, .string x.params, .string x.locals, .bool x.ret, .int .i64 x.stack, .slice pa5 pl5 pc5]).alloc (.cells #[.int .i64 0, .string ⟨#[]⟩, .string ⟨#[]⟩, .bool false, .int .i64 0, .slice none 0 0] 61)).setRow (wr.heap.size + 1) #[.int .i64 y.cls, .string y.params, .string y.locals, .bool y.ret, .int .i64 y.stack, .slice qa5 ql5 qc5]).heap[wr.heap.size + 1]? = some (.cells #[.int .i64 y.cls, .string y.params, .string y.locals, .bool y.ret, .int .i64 y.stack, .slice qa5 ql5 qc5] 61 (0, 0)) from rowT_same #[.int .i64 y.cls, .string y.params, .string y.locals, .bool y.ret, .int .i64 y.stack, .slice qa5 ql5 qc5] HK2.out)
      have HBX := Lib.hid (show Below wr.heap.size wr ((((wr.alloc (.cells #[.int .i64 0, .string ⟨#[]⟩, .string ⟨#[]⟩, .bool false, .int .i64 0, .slice none 0 0] 61)).setRow wr.heap.size #[.int .i64 x.cls, .string x.params, .string x.locals, .bool x.ret, .int .i64 x.stack, .slice pa5 pl5 pc5]).alloc (.cells #[.int .i64 0, .string ⟨#[]⟩, .string ⟨#[]⟩, .bool false, .int .i64 0, .slice none 0 0] 61)).setRow (wr.heap.size + 1) #[.int .i64 y.cls, .string y.params, .string y.locals, .bool y.ret, .int .i64 y.stack, .slice qa5 ql5 qc5]) from rowT_below ((rowT_below ((Below.refl wr.heap.size wr).alloc (Nat.le_refl _) (.cells #[.int .i64 0, .string ⟨#[]⟩, .string ⟨#[]⟩, .bool false, .int .i64 0, .slice none 0 0] 61)) (Nat.le_refl _) #[.int .i64 x.cls, .string x.params, .string x.locals, .bool x.ret, .int .i64 x.stack, .slice pa5 pl5 pc5]).alloc (by rw [hz1]; omega) (.cells #[.int .i64 0, .string ⟨#[]⟩, .string ⟨#[]⟩, .bool false, .int .i64 0, .slice none 0 0] 61)) (Nat.le_succ _) #[.int .i64 y.cls, .string y.params, .string y.locals, .bool y.ret, .int .i64 y.stack, .slice qa5 ql5 qc5])
      have hone1 : (#[.int .i64 x.cls, .string x.params, .string x.locals, .bool x.ret, .int .i64 x.stack, .slice pa5 pl5 pc5] : Array Value).all (·.oneCell') = true := by simp [Value.oneCell']
      have hone2 : (#[.int .i64 y.cls, .string y.params, .string y.locals, .bool y.ret, .int .i64 y.stack, .slice qa5 ql5 qc5] : Array Value).all (·.oneCell') = true := by simp [Value.oneCell']
      have hcc := hc0 _ HBX.out (by have := hbw.size; omega)
      have hc : Calls Tryz.prog 38 #[.agg #[.int .i64 x.cls, .string x.params, .string x.locals, .bool x.ret, .int .i64 x.stack, .slice pa5 pl5 pc5], .agg #[.int .i64 y.cls, .string y.params, .string y.locals, .bool y.ret, .int .i64 y.stack, .slice qa5 ql5 qc5]] ((((wr.alloc (.cells #[.int .i64 0, .string ⟨#[]⟩, .string ⟨#[]⟩, .bool false, .int .i64 0, .slice none 0 0] 61)).setRow wr.heap.size #[.int .i64 x.cls, .string x.params, .string x.locals, .bool x.ret, .int .i64 x.stack, .slice pa5 pl5 pc5]).alloc (.cells #[.int .i64 0, .string ⟨#[]⟩, .string ⟨#[]⟩, .bool false, .int .i64 0, .slice none 0 0] 61)).setRow (wr.heap.size + 1) #[.int .i64 y.cls, .string y.params, .string y.locals, .bool y.ret, .int .i64 y.stack, .slice qa5 ql5 qc5]) _ := hcc
      clear hcc
      have HXX := Lib.hid hx
      have HXY := Lib.hid hx'
      clear hba hbb hrA hrB hbw hx hx' iA iB hc0
      go_wp2_with (first | (refine wpList_store_row rfl 61 (.tmp 8) (.tmp 21) rfl wr.heap.size #[.int .i64 x.cls, .string x.params, .string x.locals, .bool x.ret, .int .i64 x.stack, .slice pa5 pl5 pc5] rfl rfl 61 #[.int .i64 0, .string ⟨#[]⟩, .string ⟨#[]⟩, .bool false, .int .i64 0, .slice none 0 0] HK1.out size61s rfl hone1 ?_) | (refine wpList_store_row rfl 61 (.tmp 9) (.tmp 25) rfl (wr.heap.size + 1) #[.int .i64 y.cls, .string y.params, .string y.locals, .bool y.ret, .int .i64 y.stack, .slice qa5 ql5 qc5] rfl rfl 61 #[.int .i64 0, .string ⟨#[]⟩, .string ⟨#[]⟩, .bool false, .int .i64 0, .slice none 0 0] HK2.out size61s rfl hone2 ?_) | (refine wpList_load_row rfl 61 (.tmp 8) rfl wr.heap.size rfl 61 #[.int .i64 x.cls, .string x.params, .string x.locals, .bool x.ret, .int .i64 x.stack, .slice pa5 pl5 pc5] (0, 0) _ HX8.out Tryz.underlying61 rfl size61s ?_) | (refine wpList_load_row rfl 61 (.tmp 9) rfl (wr.heap.size + 1) rfl 61 #[.int .i64 y.cls, .string y.params, .string y.locals, .bool y.ret, .int .i64 y.stack, .slice qa5 ql5 qc5] (0, 0) _ HX9.out Tryz.underlying61 rfl size61s ?_) | (go_at_call 38; refine hc.mono ?_))
      first | rintro e V ⟨⟨β, rfl, hβ⟩, hb⟩ | rintro e V ⟨β, rfl, hβ⟩ hb
      have HB2 := Lib.hid ((HBW.out.trans (HBX.out.mono HBW.out.size)).trans (hb.mono (Nat.le_trans HBW.out.size HBX.out.size)))
      clear hone1 hone2 hz1
      clear hc hb e0 d0 e1 d1 e2 d2 e3 d3 e4 d4 e5 d5
      cases β with
      | false =>
        have HNE := Lib.hid (show xs ≠ ys from fun h => by
          have h9 := HXX.out
          rw [h, HXY.out] at h9
          have := hβ.2 (Option.some.inj h9).symm
          cases this)
        clear hβ
        go_wp2_with fail
        go_returns
        exact ⟨⟨false, rfl, by simp [HNE.out]⟩, HB2.out⟩
      | true =>
        have hxy := hβ.1 rfl
        subst hxy
        clear hβ
        go_wp2_with fail
        refine ⟨⟨k + 1, by omega, by go_num, HB2.out, ?_⟩, by simp [intOf]; omega⟩
        intro j hj
        rcases Nat.lt_or_ge j k with h | h
        · exact HSM.out j h
        · rw [show j = k by omega, HXX.out, HXY.out]
    · have HEQ := Lib.hid (all_one (hlen.trans hlen'.symm) (fun j hj => HSM.out j (by omega)))
      clear hbw
      obtain rfl : k = l := by omega
      go_wp2_with fail
      go_returns
      exact ⟨⟨true, rfl, by simp [HEQ.out]⟩, HBW.out⟩
end Go.Proofs.YtoaohoeghlidaaaGreatDoor
