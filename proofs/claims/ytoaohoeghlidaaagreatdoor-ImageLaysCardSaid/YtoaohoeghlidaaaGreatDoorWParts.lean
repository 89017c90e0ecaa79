/-
  The program's writer: the parts of an image, an image.
-/
import Derived.Test.YtoaohoeghlidaaaGreatDoorWList
namespace Go.Proofs.YtoaohoeghlidaaaGreatDoor
open Go.ChangeShapes Go.WideShapes Go.ChangeAt Go.RowKit

theorem wr_num : Wr 67 mk1 shInt cNum 4 := by
  intro B b s vs x W hI h hs hB
  obtain rfl := int_is.1 hI
  exact number_any x B b s hs W hB h
theorem wr_text : Wr 21 mk1 shStr cText 10004 := by
  intro B b s vs x W hI h hs hB
  obtain rfl := str_is.1 hI
  exact text_any x B b s hs W hB h
theorem wr_flag : Wr 93 mk1 shBool cFlag 4 := by
  intro B b s vs x W hI h hs hB
  obtain rfl : vs = [.bool x] := hI
  exact flag_any x B b s hs W hB h
theorem grow_nums : Grow cNums 40004 := grow_list grow_num
theorem grow_texts : Grow cTexts 100040004 := grow_list grow_text

set_option maxRecDepth 100000 in
theorem wr_nums : Wr 62 mk1 shInts cNums 40004 := by
  intro B b s vs x W hI h hs hB
  obtain ⟨a, l, c, rfl, hr⟩ := slice_is.1 hI
  have hc := listInts 4 wr_num grow_num B b s a l c x W hr h (by omega) hB
  clear hI hr h
  show Calls Tryz.prog 62 #[.pointer (some ⟨b, 0, none⟩), .slice a l c] W _
  go_enter Tryz.func62, Tryz.ntmps62
  go_wp2_with (go_at_call 96; refine hc.mono ?_)
  first | rintro e W1 rfl hw hf | rintro e W1 ⟨rfl, hw, hf⟩
  have HW := Lib.hid hw
  have HF := Lib.hid hf
  clear hw hf hc
  go_wp2_with fail
  go_returns
  exact ⟨rfl, HW.out, HF.out⟩
set_option maxRecDepth 100000 in
theorem wr_texts : Wr 56 mk1 shTexts cTexts 100040004 := by
  intro B b s vs x W hI h hs hB
  obtain ⟨a, l, c, rfl, hr⟩ := slice_is.1 hI
  have hc := listTexts 10004 wr_text grow_text B b s a l c x W hr h (by omega) hB
  clear hI hr h
  show Calls Tryz.prog 56 #[.pointer (some ⟨b, 0, none⟩), .slice a l c] W _
  go_enter Tryz.func56, Tryz.ntmps56
  go_wp2_with (go_at_call 57; refine hc.mono ?_)
  first | rintro e W1 rfl hw hf | rintro e W1 ⟨rfl, hw, hf⟩
  have HW := Lib.hid hw
  have HF := Lib.hid hf
  clear hw hf hc
  go_wp2_with fail
  go_returns
  exact ⟨rfl, HW.out, HF.out⟩

set_option maxHeartbeats 2000000 in
set_option maxRecDepth 100000 in
theorem wr_table : Wr 92 mkA shTable cTable 40008 := by
  intro B b s vs x W hI h hs hB
  obtain ⟨a1, l1, c1, rfl, h1⟩ := table_is.1 hI
  have hb0 : (W.alloc (.cells #[.int .i64 x.face, .slice a1 l1 c1] 58)).heap[W.heap.size]? = some (.cells #[.int .i64 x.face, .slice a1 l1 c1] 58 (0, 0)) := heap_alloc_new W _
  have HI0 := Lib.hid hb0
  have HF0 := Lib.hid ((Fr.refl 64 5 B W).alloc hB (.cells #[.int .i64 x.face, .slice a1 l1 c1] 58))
  have HW0 := Lib.hid (h.alloc (.cells #[.int .i64 x.face, .slice a1 l1 c1] 58))
  have HR1 := Lib.hid h1
  clear hI h hb0 h1
  show Calls Tryz.prog 92 #[.pointer (some ⟨b, 0, none⟩), .agg #[.int .i64 x.face, .slice a1 l1 c1]] W _
  go_enter Tryz.func92, Tryz.ntmps92
  have hc0 := wr_num B b s [.int .i64 x.face] x.face (W.alloc (.cells #[.int .i64 x.face, .slice a1 l1 c1] 58)) (show _ from rfl) HW0.out (by omega) (Nat.le_trans hB HF0.out.size)
  go_wp2_with (go_at_call 67; refine hc0.mono ?_)
  first | rintro e W1 rfl hw1 hf1 | rintro e W1 ⟨rfl, hw1, hf1⟩
  have hg1 : (cNum.w x.face s).bs.length ≤ s.bs.length + 4 := grow_num x.face s
  obtain ⟨s1, hs1⟩ : ∃ t, t = (cNum.w x.face s) := ⟨_, rfl⟩
  rw [← hs1] at hw1 hg1
  have HW1 := Lib.hid hw1
  have HS1 := Lib.hid hs1
  have HF1 := Lib.hid (HF0.out.trans hf1)
  have HI1 := Lib.hid ((hf1.oth _ _ _ _ HI0.out (by decide) (by decide)).trans HI0.out)
  clear hw1 hf1 hc0 hs1
  have e1 : W1.cell? ⟨W.heap.size, 1, none⟩ = some (.slice a1 l1 c1) := by rw [Lib.cell_of_heap HI1.out]; rfl
  have hc1 := wr_nums B b s1 [.slice a1 l1 c1] x.slots W1 (slice_is.2 ⟨_, _, _, rfl, (kept_row HR1.out HF1.out)⟩) HW1.out (by omega) (Nat.le_trans hB HF1.out.size)
  go_wp2_with (go_at_call 62; refine hc1.mono ?_)
  first | rintro e W2 rfl hw2 hf2 | rintro e W2 ⟨rfl, hw2, hf2⟩
  have hg2 : (cNums.w x.slots s1).bs.length ≤ s1.bs.length + 40004 := grow_nums x.slots s1
  obtain ⟨s2, hs2⟩ : ∃ t, t = (cNums.w x.slots s1) := ⟨_, rfl⟩
  rw [← hs2] at hw2 hg2
  have HW2 := Lib.hid hw2
  have HS2 := Lib.hid hs2
  have HF2 := Lib.hid (HF1.out.trans hf2)
  have HI2 := Lib.hid ((hf2.oth _ _ _ _ HI1.out (by decide) (by decide)).trans HI1.out)
  clear hw2 hf2 hc1 hs2 e1
  go_wp2_with fail
  go_returns
  refine ⟨rfl, ?_, HF2.out⟩
  have hh := HW2.out
  rw [HS2.out, HS1.out] at hh
  exact hh
theorem grow_table : Grow cTable 40008 := grow_iso (grow_pair grow_num grow_nums)

set_option maxHeartbeats 2000000 in
set_option maxRecDepth 100000 in
theorem wr_op : Wr 95 mkA shOp cOp 12 := by
  intro B b s vs x W hI h hs hB
  obtain rfl := op_is.1 hI
  have hb0 : (W.alloc (.cells #[.int .i64 x.k, .int .i64 x.a, .int .i64 x.b] 127)).heap[W.heap.size]? = some (.cells #[.int .i64 x.k, .int .i64 x.a, .int .i64 x.b] 127 (0, 0)) := heap_alloc_new W _
  have HI0 := Lib.hid hb0
  have HF0 := Lib.hid ((Fr.refl 64 5 B W).alloc hB (.cells #[.int .i64 x.k, .int .i64 x.a, .int .i64 x.b] 127))
  have HW0 := Lib.hid (h.alloc (.cells #[.int .i64 x.k, .int .i64 x.a, .int .i64 x.b] 127))
  clear hI h hb0
  show Calls Tryz.prog 95 #[.pointer (some ⟨b, 0, none⟩), .agg #[.int .i64 x.k, .int .i64 x.a, .int .i64 x.b]] W _
  go_enter Tryz.func95, Tryz.ntmps95
  have hc0 := wr_num B b s [.int .i64 x.k] x.k (W.alloc (.cells #[.int .i64 x.k, .int .i64 x.a, .int .i64 x.b] 127)) (show _ from rfl) HW0.out (by omega) (Nat.le_trans hB HF0.out.size)
  go_wp2_with (go_at_call 67; refine hc0.mono ?_)
  first | rintro e W1 rfl hw1 hf1 | rintro e W1 ⟨rfl, hw1, hf1⟩
  have hg1 : (cNum.w x.k s).bs.length ≤ s.bs.length + 4 := grow_num x.k s
  obtain ⟨s1, hs1⟩ : ∃ t, t = (cNum.w x.k s) := ⟨_, rfl⟩
  rw [← hs1] at hw1 hg1
  have HW1 := Lib.hid hw1
  have HS1 := Lib.hid hs1
  have HF1 := Lib.hid (HF0.out.trans hf1)
  have HI1 := Lib.hid ((hf1.oth _ _ _ _ HI0.out (by decide) (by decide)).trans HI0.out)
  clear hw1 hf1 hc0 hs1
  have e1 : W1.cell? ⟨W.heap.size, 1, none⟩ = some (.int .i64 x.a) := by rw [Lib.cell_of_heap HI1.out]; rfl
  have hc1 := wr_num B b s1 [.int .i64 x.a] x.a W1 (show _ from rfl) HW1.out (by omega) (Nat.le_trans hB HF1.out.size)
  go_wp2_with (go_at_call 67; refine hc1.mono ?_)
  first | rintro e W2 rfl hw2 hf2 | rintro e W2 ⟨rfl, hw2, hf2⟩
  have hg2 : (cNum.w x.a s1).bs.length ≤ s1.bs.length + 4 := grow_num x.a s1
  obtain ⟨s2, hs2⟩ : ∃ t, t = (cNum.w x.a s1) := ⟨_, rfl⟩
  rw [← hs2] at hw2 hg2
  have HW2 := Lib.hid hw2
  have HS2 := Lib.hid hs2
  have HF2 := Lib.hid (HF1.out.trans hf2)
  have HI2 := Lib.hid ((hf2.oth _ _ _ _ HI1.out (by decide) (by decide)).trans HI1.out)
  clear hw2 hf2 hc1 hs2 e1
  have e2 : W2.cell? ⟨W.heap.size, 2, none⟩ = some (.int .i64 x.b) := by rw [Lib.cell_of_heap HI2.out]; rfl
  have hc2 := wr_num B b s2 [.int .i64 x.b] x.b W2 (show _ from rfl) HW2.out (by omega) (Nat.le_trans hB HF2.out.size)
  go_wp2_with (go_at_call 67; refine hc2.mono ?_)
  first | rintro e W3 rfl hw3 hf3 | rintro e W3 ⟨rfl, hw3, hf3⟩
  have hg3 : (cNum.w x.b s2).bs.length ≤ s2.bs.length + 4 := grow_num x.b s2
  obtain ⟨s3, hs3⟩ : ∃ t, t = (cNum.w x.b s2) := ⟨_, rfl⟩
  rw [← hs3] at hw3 hg3
  have HW3 := Lib.hid hw3
  have HS3 := Lib.hid hs3
  have HF3 := Lib.hid (HF2.out.trans hf3)
  have HI3 := Lib.hid ((hf3.oth _ _ _ _ HI2.out (by decide) (by decide)).trans HI2.out)
  clear hw3 hf3 hc2 hs3 e2
  go_wp2_with fail
  go_returns
  refine ⟨rfl, ?_, HF3.out⟩
  have hh := HW3.out
  rw [HS3.out, HS2.out, HS1.out] at hh
  exact hh
theorem grow_op : Grow cOp 12 := grow_iso (grow_pair (grow_pair grow_num grow_num) grow_num)

set_option maxHeartbeats 2000000 in
set_option maxRecDepth 100000 in
theorem wr_link : Wr 64 mkA shLink cLink 12 := by
  intro B b s vs x W hI h hs hB
  obtain rfl := link_is.1 hI
  have hb0 : (W.alloc (.cells #[.int .i64 x.g, .int .i64 x.s, .bool x.b] 90)).heap[W.heap.size]? = some (.cells #[.int .i64 x.g, .int .i64 x.s, .bool x.b] 90 (0, 0)) := heap_alloc_new W _
  have HI0 := Lib.hid hb0
  have HF0 := Lib.hid ((Fr.refl 64 5 B W).alloc hB (.cells #[.int .i64 x.g, .int .i64 x.s, .bool x.b] 90))
  have HW0 := Lib.hid (h.alloc (.cells #[.int .i64 x.g, .int .i64 x.s, .bool x.b] 90))
  clear hI h hb0
  show Calls Tryz.prog 64 #[.pointer (some ⟨b, 0, none⟩), .agg #[.int .i64 x.g, .int .i64 x.s, .bool x.b]] W _
  go_enter Tryz.func64, Tryz.ntmps64
  have hc0 := wr_num B b s [.int .i64 x.g] x.g (W.alloc (.cells #[.int .i64 x.g, .int .i64 x.s, .bool x.b] 90)) (show _ from rfl) HW0.out (by omega) (Nat.le_trans hB HF0.out.size)
  go_wp2_with (go_at_call 67; refine hc0.mono ?_)
  first | rintro e W1 rfl hw1 hf1 | rintro e W1 ⟨rfl, hw1, hf1⟩
  have hg1 : (cNum.w x.g s).bs.length ≤ s.bs.length + 4 := grow_num x.g s
  obtain ⟨s1, hs1⟩ : ∃ t, t = (cNum.w x.g s) := ⟨_, rfl⟩
  rw [← hs1] at hw1 hg1
  have HW1 := Lib.hid hw1
  have HS1 := Lib.hid hs1
  have HF1 := Lib.hid (HF0.out.trans hf1)
  have HI1 := Lib.hid ((hf1.oth _ _ _ _ HI0.out (by decide) (by decide)).trans HI0.out)
  clear hw1 hf1 hc0 hs1
  have e1 : W1.cell? ⟨W.heap.size, 1, none⟩ = some (.int .i64 x.s) := by rw [Lib.cell_of_heap HI1.out]; rfl
  have hc1 := wr_num B b s1 [.int .i64 x.s] x.s W1 (show _ from rfl) HW1.out (by omega) (Nat.le_trans hB HF1.out.size)
  go_wp2_with (go_at_call 67; refine hc1.mono ?_)
  first | rintro e W2 rfl hw2 hf2 | rintro e W2 ⟨rfl, hw2, hf2⟩
  have hg2 : (cNum.w x.s s1).bs.length ≤ s1.bs.length + 4 := grow_num x.s s1
  obtain ⟨s2, hs2⟩ : ∃ t, t = (cNum.w x.s s1) := ⟨_, rfl⟩
  rw [← hs2] at hw2 hg2
  have HW2 := Lib.hid hw2
  have HS2 := Lib.hid hs2
  have HF2 := Lib.hid (HF1.out.trans hf2)
  have HI2 := Lib.hid ((hf2.oth _ _ _ _ HI1.out (by decide) (by decide)).trans HI1.out)
  clear hw2 hf2 hc1 hs2 e1
  have e2 : W2.cell? ⟨W.heap.size, 2, none⟩ = some (.bool x.b) := by rw [Lib.cell_of_heap HI2.out]; rfl
  have hc2 := wr_flag B b s2 [.bool x.b] x.b W2 (show _ from rfl) HW2.out (by omega) (Nat.le_trans hB HF2.out.size)
  go_wp2_with (go_at_call 93; refine hc2.mono ?_)
  first | rintro e W3 rfl hw3 hf3 | rintro e W3 ⟨rfl, hw3, hf3⟩
  have hg3 : (cFlag.w x.b s2).bs.length ≤ s2.bs.length + 4 := grow_flag x.b s2
  obtain ⟨s3, hs3⟩ : ∃ t, t = (cFlag.w x.b s2) := ⟨_, rfl⟩
  rw [← hs3] at hw3 hg3
  have HW3 := Lib.hid hw3
  have HS3 := Lib.hid hs3
  have HF3 := Lib.hid (HF2.out.trans hf3)
  have HI3 := Lib.hid ((hf3.oth _ _ _ _ HI2.out (by decide) (by decide)).trans HI2.out)
  clear hw3 hf3 hc2 hs3 e2
  go_wp2_with fail
  go_returns
  refine ⟨rfl, ?_, HF3.out⟩
  have hh := HW3.out
  rw [HS3.out, HS2.out, HS1.out] at hh
  exact hh
theorem grow_link : Grow cLink 12 := grow_iso (grow_pair (grow_pair grow_num grow_num) grow_flag)

set_option maxHeartbeats 2000000 in
set_option maxRecDepth 100000 in
theorem wr_job : Wr 66 mkA shJob cJob 12 := by
  intro B b s vs x W hI h hs hB
  obtain rfl := job_is.1 hI
  have hb0 : (W.alloc (.cells #[.int .i64 x.c, .int .i64 x.e, .int .i64 x.f] 78)).heap[W.heap.size]? = some (.cells #[.int .i64 x.c, .int .i64 x.e, .int .i64 x.f] 78 (0, 0)) := heap_alloc_new W _
  have HI0 := Lib.hid hb0
  have HF0 := Lib.hid ((Fr.refl 64 5 B W).alloc hB (.cells #[.int .i64 x.c, .int .i64 x.e, .int .i64 x.f] 78))
  have HW0 := Lib.hid (h.alloc (.cells #[.int .i64 x.c, .int .i64 x.e, .int .i64 x.f] 78))
  clear hI h hb0
  show Calls Tryz.prog 66 #[.pointer (some ⟨b, 0, none⟩), .agg #[.int .i64 x.c, .int .i64 x.e, .int .i64 x.f]] W _
  go_enter Tryz.func66, Tryz.ntmps66
  have hc0 := wr_num B b s [.int .i64 x.c] x.c (W.alloc (.cells #[.int .i64 x.c, .int .i64 x.e, .int .i64 x.f] 78)) (show _ from rfl) HW0.out (by omega) (Nat.le_trans hB HF0.out.size)
  go_wp2_with (go_at_call 67; refine hc0.mono ?_)
  first | rintro e W1 rfl hw1 hf1 | rintro e W1 ⟨rfl, hw1, hf1⟩
  have hg1 : (cNum.w x.c s).bs.length ≤ s.bs.length + 4 := grow_num x.c s
  obtain ⟨s1, hs1⟩ : ∃ t, t = (cNum.w x.c s) := ⟨_, rfl⟩
  rw [← hs1] at hw1 hg1
  have HW1 := Lib.hid hw1
  have HS1 := Lib.hid hs1
  have HF1 := Lib.hid (HF0.out.trans hf1)
  have HI1 := Lib.hid ((hf1.oth _ _ _ _ HI0.out (by decide) (by decide)).trans HI0.out)
  clear hw1 hf1 hc0 hs1
  have e1 : W1.cell? ⟨W.heap.size, 1, none⟩ = some (.int .i64 x.e) := by rw [Lib.cell_of_heap HI1.out]; rfl
  have hc1 := wr_num B b s1 [.int .i64 x.e] x.e W1 (show _ from rfl) HW1.out (by omega) (Nat.le_trans hB HF1.out.size)
  go_wp2_with (go_at_call 67; refine hc1.mono ?_)
  first | rintro e W2 rfl hw2 hf2 | rintro e W2 ⟨rfl, hw2, hf2⟩
  have hg2 : (cNum.w x.e s1).bs.length ≤ s1.bs.length + 4 := grow_num x.e s1
  obtain ⟨s2, hs2⟩ : ∃ t, t = (cNum.w x.e s1) := ⟨_, rfl⟩
  rw [← hs2] at hw2 hg2
  have HW2 := Lib.hid hw2
  have HS2 := Lib.hid hs2
  have HF2 := Lib.hid (HF1.out.trans hf2)
  have HI2 := Lib.hid ((hf2.oth _ _ _ _ HI1.out (by decide) (by decide)).trans HI1.out)
  clear hw2 hf2 hc1 hs2 e1
  have e2 : W2.cell? ⟨W.heap.size, 2, none⟩ = some (.int .i64 x.f) := by rw [Lib.cell_of_heap HI2.out]; rfl
  have hc2 := wr_num B b s2 [.int .i64 x.f] x.f W2 (show _ from rfl) HW2.out (by omega) (Nat.le_trans hB HF2.out.size)
  go_wp2_with (go_at_call 67; refine hc2.mono ?_)
  first | rintro e W3 rfl hw3 hf3 | rintro e W3 ⟨rfl, hw3, hf3⟩
  have hg3 : (cNum.w x.f s2).bs.length ≤ s2.bs.length + 4 := grow_num x.f s2
  obtain ⟨s3, hs3⟩ : ∃ t, t = (cNum.w x.f s2) := ⟨_, rfl⟩
  rw [← hs3] at hw3 hg3
  have HW3 := Lib.hid hw3
  have HS3 := Lib.hid hs3
  have HF3 := Lib.hid (HF2.out.trans hf3)
  have HI3 := Lib.hid ((hf3.oth _ _ _ _ HI2.out (by decide) (by decide)).trans HI2.out)
  clear hw3 hf3 hc2 hs3 e2
  go_wp2_with fail
  go_returns
  refine ⟨rfl, ?_, HF3.out⟩
  have hh := HW3.out
  rw [HS3.out, HS2.out, HS1.out] at hh
  exact hh
theorem grow_job : Grow cJob 12 := grow_iso (grow_pair (grow_pair grow_num grow_num) grow_num)
theorem grow_tables : Grow (cList cTable) 400080004 := grow_list grow_table
theorem grow_ops : Grow (cList cOp) 120004 := grow_list grow_op
theorem grow_links : Grow (cList cLink) 120004 := grow_list grow_link
theorem grow_jobs : Grow (cList cJob) 120004 := grow_list grow_job
end Go.Proofs.YtoaohoeghlidaaaGreatDoor
