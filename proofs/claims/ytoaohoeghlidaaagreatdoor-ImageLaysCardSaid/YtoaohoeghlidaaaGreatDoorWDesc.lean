/-
  The program's writer: the parts of an image, an image.
-/
import Derived.Test.YtoaohoeghlidaaaGreatDoorWParts
namespace Go.Proofs.YtoaohoeghlidaaaGreatDoor
open Go.ChangeShapes Go.WideShapes Go.ChangeAt Go.RowKit

set_option maxHeartbeats 2000000 in
set_option maxRecDepth 100000 in
theorem wr_desc : Wr 59 mkA shDesc cDesc 500210024 := by
  intro B b s vs x W hI h hs hB
  obtain ⟨a2, l2, c2, a3, l3, c3, a4, l4, c4, a5, l5, c5, rfl, h2, h3, h4, h5⟩ := desc_is.1 hI
  have hb0 : (W.alloc (.cells #[.int .i64 x.base, .string x.fields, .slice a2 l2 c2, .slice a3 l3 c3, .slice a4 l4 c4, .slice a5 l5 c5] 56)).heap[W.heap.size]? = some (.cells #[.int .i64 x.base, .string x.fields, .slice a2 l2 c2, .slice a3 l3 c3, .slice a4 l4 c4, .slice a5 l5 c5] 56 (0, 0)) := heap_alloc_new W _
  have HI0 := Lib.hid hb0
  have HF0 := Lib.hid ((Fr.refl 64 5 B W).alloc hB (.cells #[.int .i64 x.base, .string x.fields, .slice a2 l2 c2, .slice a3 l3 c3, .slice a4 l4 c4, .slice a5 l5 c5] 56))
  have HW0 := Lib.hid (h.alloc (.cells #[.int .i64 x.base, .string x.fields, .slice a2 l2 c2, .slice a3 l3 c3, .slice a4 l4 c4, .slice a5 l5 c5] 56))
  have HR2 := Lib.hid h2
  have HR3 := Lib.hid h3
  have HR4 := Lib.hid h4
  have HR5 := Lib.hid h5
  clear hI h hb0 h2 h3 h4 h5
  show Calls Tryz.prog 59 #[.pointer (some ⟨b, 0, none⟩), .agg #[.int .i64 x.base, .string x.fields, .slice a2 l2 c2, .slice a3 l3 c3, .slice a4 l4 c4, .slice a5 l5 c5]] W _
  go_enter Tryz.func59, Tryz.ntmps59
  have hc0 := wr_num B b s [.int .i64 x.base] x.base (W.alloc (.cells #[.int .i64 x.base, .string x.fields, .slice a2 l2 c2, .slice a3 l3 c3, .slice a4 l4 c4, .slice a5 l5 c5] 56)) (show _ from rfl) HW0.out (by omega) (Nat.le_trans hB HF0.out.size)
  go_wp2_with (go_at_call 67; refine hc0.mono ?_)
  first | rintro e W1 rfl hw1 hf1 | rintro e W1 ⟨rfl, hw1, hf1⟩
  have hg1 : (cNum.w x.base s).bs.length ≤ s.bs.length + 4 := grow_num x.base s
  obtain ⟨s1, hs1⟩ : ∃ t, t = (cNum.w x.base s) := ⟨_, rfl⟩
  rw [← hs1] at hw1 hg1
  have HW1 := Lib.hid hw1
  have HS1 := Lib.hid hs1
  have HF1 := Lib.hid (HF0.out.trans hf1)
  have HI1 := Lib.hid ((hf1.oth _ _ _ _ HI0.out (by decide) (by decide)).trans HI0.out)
  clear hw1 hf1 hc0 hs1
  have e1 : W1.cell? ⟨W.heap.size, 1, none⟩ = some (.string x.fields) := by rw [Lib.cell_of_heap HI1.out]; rfl
  have hc1 := wr_text B b s1 [.string x.fields] x.fields W1 (show _ from rfl) HW1.out (by omega) (Nat.le_trans hB HF1.out.size)
  go_wp2_with (go_at_call 21; refine hc1.mono ?_)
  first | rintro e W2 rfl hw2 hf2 | rintro e W2 ⟨rfl, hw2, hf2⟩
  have hg2 : (cText.w x.fields s1).bs.length ≤ s1.bs.length + 10004 := grow_text x.fields s1
  obtain ⟨s2, hs2⟩ : ∃ t, t = (cText.w x.fields s1) := ⟨_, rfl⟩
  rw [← hs2] at hw2 hg2
  have HW2 := Lib.hid hw2
  have HS2 := Lib.hid hs2
  have HF2 := Lib.hid (HF1.out.trans hf2)
  have HI2 := Lib.hid ((hf2.oth _ _ _ _ HI1.out (by decide) (by decide)).trans HI1.out)
  clear hw2 hf2 hc1 hs2 e1
  have e2 : W2.cell? ⟨W.heap.size, 2, none⟩ = some (.slice a2 l2 c2) := by rw [Lib.cell_of_heap HI2.out]; rfl
  have hc2 := wr_nums B b s2 [.slice a2 l2 c2] x.init W2 (slice_is.2 ⟨_, _, _, rfl, (kept_row HR2.out HF2.out)⟩) HW2.out (by omega) (Nat.le_trans hB HF2.out.size)
  go_wp2_with (go_at_call 62; refine hc2.mono ?_)
  first | rintro e W3 rfl hw3 hf3 | rintro e W3 ⟨rfl, hw3, hf3⟩
  have hg3 : (cNums.w x.init s2).bs.length ≤ s2.bs.length + 40004 := grow_nums x.init s2
  obtain ⟨s3, hs3⟩ : ∃ t, t = (cNums.w x.init s2) := ⟨_, rfl⟩
  rw [← hs3] at hw3 hg3
  have HW3 := Lib.hid hw3
  have HS3 := Lib.hid hs3
  have HF3 := Lib.hid (HF2.out.trans hf3)
  have HI3 := Lib.hid ((hf3.oth _ _ _ _ HI2.out (by decide) (by decide)).trans HI2.out)
  clear hw3 hf3 hc2 hs3 e2
  have e3 : W3.cell? ⟨W.heap.size, 3, none⟩ = some (.slice a3 l3 c3) := by rw [Lib.cell_of_heap HI3.out]; rfl
  have hc3 := wr_nums B b s3 [.slice a3 l3 c3] x.vtable W3 (slice_is.2 ⟨_, _, _, rfl, (kept_row HR3.out HF3.out)⟩) HW3.out (by omega) (Nat.le_trans hB HF3.out.size)
  go_wp2_with (go_at_call 62; refine hc3.mono ?_)
  first | rintro e W4 rfl hw4 hf4 | rintro e W4 ⟨rfl, hw4, hf4⟩
  have hg4 : (cNums.w x.vtable s3).bs.length ≤ s3.bs.length + 40004 := grow_nums x.vtable s3
  obtain ⟨s4, hs4⟩ : ∃ t, t = (cNums.w x.vtable s3) := ⟨_, rfl⟩
  rw [← hs4] at hw4 hg4
  have HW4 := Lib.hid hw4
  have HS4 := Lib.hid hs4
  have HF4 := Lib.hid (HF3.out.trans hf4)
  have HI4 := Lib.hid ((hf4.oth _ _ _ _ HI3.out (by decide) (by decide)).trans HI3.out)
  clear hw4 hf4 hc3 hs4 e3
  have e4 : W4.cell? ⟨W.heap.size, 4, none⟩ = some (.slice a4 l4 c4) := by rw [Lib.cell_of_heap HI4.out]; rfl
  have hc4 := listTexts 10004 wr_text grow_text B b s4 a4 l4 c4 x.sigs W4 (kept_row HR4.out HF4.out) HW4.out (by omega) (Nat.le_trans hB HF4.out.size)
  go_wp2_with (go_at_call 57; refine hc4.mono ?_)
  first | rintro e W5 rfl hw5 hf5 | rintro e W5 ⟨rfl, hw5, hf5⟩
  have hg5 : ((cList cText).w x.sigs s4).bs.length ≤ s4.bs.length + 100040004 := grow_texts x.sigs s4
  obtain ⟨s5, hs5⟩ : ∃ t, t = ((cList cText).w x.sigs s4) := ⟨_, rfl⟩
  rw [← hs5] at hw5 hg5
  have HW5 := Lib.hid hw5
  have HS5 := Lib.hid hs5
  have HF5 := Lib.hid (HF4.out.trans hf5)
  have HI5 := Lib.hid ((hf5.oth _ _ _ _ HI4.out (by decide) (by decide)).trans HI4.out)
  clear hw5 hf5 hc4 hs5 e4
  have e5 : W5.cell? ⟨W.heap.size, 5, none⟩ = some (.slice a5 l5 c5) := by rw [Lib.cell_of_heap HI5.out]; rfl
  have hc5 := listTables 40008 wr_table grow_table B b s5 a5 l5 c5 x.tables W5 (kept_row HR5.out HF5.out) HW5.out (by omega) (Nat.le_trans hB HF5.out.size)
  go_wp2_with (go_at_call 91; refine hc5.mono ?_)
  first | rintro e W6 rfl hw6 hf6 | rintro e W6 ⟨rfl, hw6, hf6⟩
  have hg6 : ((cList cTable).w x.tables s5).bs.length ≤ s5.bs.length + 400080004 := grow_tables x.tables s5
  obtain ⟨s6, hs6⟩ : ∃ t, t = ((cList cTable).w x.tables s5) := ⟨_, rfl⟩
  rw [← hs6] at hw6 hg6
  have HW6 := Lib.hid hw6
  have HS6 := Lib.hid hs6
  have HF6 := Lib.hid (HF5.out.trans hf6)
  have HI6 := Lib.hid ((hf6.oth _ _ _ _ HI5.out (by decide) (by decide)).trans HI5.out)
  clear hw6 hf6 hc5 hs6 e5
  go_wp2_with fail
  go_returns
  refine ⟨rfl, ?_, HF6.out⟩
  have hh := HW6.out
  rw [HS6.out, HS5.out, HS4.out, HS3.out, HS2.out, HS1.out] at hh
  exact hh
theorem grow_desc : Grow cDesc 500210024 := grow_iso (grow_pair (grow_pair (grow_pair (grow_pair (grow_pair grow_num grow_text) grow_nums) grow_nums) grow_texts) grow_tables)

set_option maxHeartbeats 2000000 in
set_option maxRecDepth 100000 in
theorem wr_code : Wr 61 mkA shCode cCode 140024 := by
  intro B b s vs x W hI h hs hB
  obtain ⟨a5, l5, c5, rfl, h5⟩ := code_is.1 hI
  have hb0 : (W.alloc (.cells #[.int .i64 x.cls, .string x.params, .string x.locals, .bool x.ret, .int .i64 x.stack, .slice a5 l5 c5] 61)).heap[W.heap.size]? = some (.cells #[.int .i64 x.cls, .string x.params, .string x.locals, .bool x.ret, .int .i64 x.stack, .slice a5 l5 c5] 61 (0, 0)) := heap_alloc_new W _
  have HI0 := Lib.hid hb0
  have HF0 := Lib.hid ((Fr.refl 64 5 B W).alloc hB (.cells #[.int .i64 x.cls, .string x.params, .string x.locals, .bool x.ret, .int .i64 x.stack, .slice a5 l5 c5] 61))
  have HW0 := Lib.hid (h.alloc (.cells #[.int .i64 x.cls, .string x.params, .string x.locals, .bool x.ret, .int .i64 x.stack, .slice a5 l5 c5] 61))
  have HR5 := Lib.hid h5
  clear hI h hb0 h5
  show Calls Tryz.prog 61 #[.pointer (some ⟨b, 0, none⟩), .agg #[.int .i64 x.cls, .string x.params, .string x.locals, .bool x.ret, .int .i64 x.stack, .slice a5 l5 c5]] W _
  go_enter Tryz.func61, Tryz.ntmps61
  have hc0 := wr_num B b s [.int .i64 x.cls] x.cls (W.alloc (.cells #[.int .i64 x.cls, .string x.params, .string x.locals, .bool x.ret, .int .i64 x.stack, .slice a5 l5 c5] 61)) (show _ from rfl) HW0.out (by omega) (Nat.le_trans hB HF0.out.size)
  go_wp2_with (go_at_call 67; refine hc0.mono ?_)
  first | rintro e W1 rfl hw1 hf1 | rintro e W1 ⟨rfl, hw1, hf1⟩
  have hg1 : (cNum.w x.cls s).bs.length ≤ s.bs.length + 4 := grow_num x.cls s
  obtain ⟨s1, hs1⟩ : ∃ t, t = (cNum.w x.cls s) := ⟨_, rfl⟩
  rw [← hs1] at hw1 hg1
  have HW1 := Lib.hid hw1
  have HS1 := Lib.hid hs1
  have HF1 := Lib.hid (HF0.out.trans hf1)
  have HI1 := Lib.hid ((hf1.oth _ _ _ _ HI0.out (by decide) (by decide)).trans HI0.out)
  clear hw1 hf1 hc0 hs1
  have e1 : W1.cell? ⟨W.heap.size, 1, none⟩ = some (.string x.params) := by rw [Lib.cell_of_heap HI1.out]; rfl
  have hc1 := wr_text B b s1 [.string x.params] x.params W1 (show _ from rfl) HW1.out (by omega) (Nat.le_trans hB HF1.out.size)
  go_wp2_with (go_at_call 21; refine hc1.mono ?_)
  first | rintro e W2 rfl hw2 hf2 | rintro e W2 ⟨rfl, hw2, hf2⟩
  have hg2 : (cText.w x.params s1).bs.length ≤ s1.bs.length + 10004 := grow_text x.params s1
  obtain ⟨s2, hs2⟩ : ∃ t, t = (cText.w x.params s1) := ⟨_, rfl⟩
  rw [← hs2] at hw2 hg2
  have HW2 := Lib.hid hw2
  have HS2 := Lib.hid hs2
  have HF2 := Lib.hid (HF1.out.trans hf2)
  have HI2 := Lib.hid ((hf2.oth _ _ _ _ HI1.out (by decide) (by decide)).trans HI1.out)
  clear hw2 hf2 hc1 hs2 e1
  have e2 : W2.cell? ⟨W.heap.size, 2, none⟩ = some (.string x.locals) := by rw [Lib.cell_of_heap HI2.out]; rfl
  have hc2 := wr_text B b s2 [.string x.locals] x.locals W2 (show _ from rfl) HW2.out (by omega) (Nat.le_trans hB HF2.out.size)
  go_wp2_with (go_at_call 21; refine hc2.mono ?_)
  first | rintro e W3 rfl hw3 hf3 | rintro e W3 ⟨rfl, hw3, hf3⟩
  have hg3 : (cText.w x.locals s2).bs.length ≤ s2.bs.length + 10004 := grow_text x.locals s2
  obtain ⟨s3, hs3⟩ : ∃ t, t = (cText.w x.locals s2) := ⟨_, rfl⟩
  rw [← hs3] at hw3 hg3
  have HW3 := Lib.hid hw3
  have HS3 := Lib.hid hs3
  have HF3 := Lib.hid (HF2.out.trans hf3)
  have HI3 := Lib.hid ((hf3.oth _ _ _ _ HI2.out (by decide) (by decide)).trans HI2.out)
  clear hw3 hf3 hc2 hs3 e2
  have e3 : W3.cell? ⟨W.heap.size, 3, none⟩ = some (.bool x.ret) := by rw [Lib.cell_of_heap HI3.out]; rfl
  have hc3 := wr_flag B b s3 [.bool x.ret] x.ret W3 (show _ from rfl) HW3.out (by omega) (Nat.le_trans hB HF3.out.size)
  go_wp2_with (go_at_call 93; refine hc3.mono ?_)
  first | rintro e W4 rfl hw4 hf4 | rintro e W4 ⟨rfl, hw4, hf4⟩
  have hg4 : (cFlag.w x.ret s3).bs.length ≤ s3.bs.length + 4 := grow_flag x.ret s3
  obtain ⟨s4, hs4⟩ : ∃ t, t = (cFlag.w x.ret s3) := ⟨_, rfl⟩
  rw [← hs4] at hw4 hg4
  have HW4 := Lib.hid hw4
  have HS4 := Lib.hid hs4
  have HF4 := Lib.hid (HF3.out.trans hf4)
  have HI4 := Lib.hid ((hf4.oth _ _ _ _ HI3.out (by decide) (by decide)).trans HI3.out)
  clear hw4 hf4 hc3 hs4 e3
  have e4 : W4.cell? ⟨W.heap.size, 4, none⟩ = some (.int .i64 x.stack) := by rw [Lib.cell_of_heap HI4.out]; rfl
  have hc4 := wr_num B b s4 [.int .i64 x.stack] x.stack W4 (show _ from rfl) HW4.out (by omega) (Nat.le_trans hB HF4.out.size)
  go_wp2_with (go_at_call 67; refine hc4.mono ?_)
  first | rintro e W5 rfl hw5 hf5 | rintro e W5 ⟨rfl, hw5, hf5⟩
  have hg5 : (cNum.w x.stack s4).bs.length ≤ s4.bs.length + 4 := grow_num x.stack s4
  obtain ⟨s5, hs5⟩ : ∃ t, t = (cNum.w x.stack s4) := ⟨_, rfl⟩
  rw [← hs5] at hw5 hg5
  have HW5 := Lib.hid hw5
  have HS5 := Lib.hid hs5
  have HF5 := Lib.hid (HF4.out.trans hf5)
  have HI5 := Lib.hid ((hf5.oth _ _ _ _ HI4.out (by decide) (by decide)).trans HI4.out)
  clear hw5 hf5 hc4 hs5 e4
  have e5 : W5.cell? ⟨W.heap.size, 5, none⟩ = some (.slice a5 l5 c5) := by rw [Lib.cell_of_heap HI5.out]; rfl
  have hc5 := listOps 12 wr_op grow_op B b s5 a5 l5 c5 x.ops W5 (kept_row HR5.out HF5.out) HW5.out (by omega) (Nat.le_trans hB HF5.out.size)
  go_wp2_with (go_at_call 94; refine hc5.mono ?_)
  first | rintro e W6 rfl hw6 hf6 | rintro e W6 ⟨rfl, hw6, hf6⟩
  have hg6 : ((cList cOp).w x.ops s5).bs.length ≤ s5.bs.length + 120004 := grow_ops x.ops s5
  obtain ⟨s6, hs6⟩ : ∃ t, t = ((cList cOp).w x.ops s5) := ⟨_, rfl⟩
  rw [← hs6] at hw6 hg6
  have HW6 := Lib.hid hw6
  have HS6 := Lib.hid hs6
  have HF6 := Lib.hid (HF5.out.trans hf6)
  have HI6 := Lib.hid ((hf6.oth _ _ _ _ HI5.out (by decide) (by decide)).trans HI5.out)
  clear hw6 hf6 hc5 hs6 e5
  go_wp2_with fail
  go_returns
  refine ⟨rfl, ?_, HF6.out⟩
  have hh := HW6.out
  rw [HS6.out, HS5.out, HS4.out, HS3.out, HS2.out, HS1.out] at hh
  exact hh
theorem grow_code : Grow cCode 140024 := grow_iso (grow_pair (grow_pair (grow_pair (grow_pair (grow_pair grow_num grow_text) grow_text) grow_flag) grow_num) grow_ops)
theorem grow_faces : Grow (cList cTexts) 1000400040004 := grow_list grow_texts
theorem grow_descs : Grow (cList cDesc) 5002100240004 := grow_list grow_desc
theorem grow_codes : Grow (cList cCode) 1400240004 := grow_list grow_code
end Go.Proofs.YtoaohoeghlidaaaGreatDoor
