/-
  The program's writer: the parts of an image, an image.
-/
import Derived.Test.YtoaohoeghlidaaaGreatDoorWDesc
namespace Go.Proofs.YtoaohoeghlidaaaGreatDoor
open Go.ChangeShapes Go.WideShapes Go.ChangeAt Go.RowKit

set_option maxHeartbeats 2000000 in
set_option maxRecDepth 100000 in
theorem wr_img : Wr 22 mkA shImg cImg 6003901010048 := by
  intro B b s vs x W hI h hs hB
  obtain ⟨a0, l0, c0, a1, l1, c1, a2, l2, c2, a3, l3, c3, a5, l5, c5, a6, l6, c6, a7, l7, c7, a8, l8, c8, a9, l9, c9, rfl, h0, h1, h2, h3, h5, h6, h7, h8, h9⟩ := img_is.1 hI
  have hb0 : (W.alloc (.cells #[.slice a0 l0 c0, .slice a1 l1 c1, .slice a2 l2 c2, .slice a3 l3 c3, .string x.globals, .slice a5 l5 c5, .slice a6 l6 c6, .slice a7 l7 c7, .slice a8 l8 c8, .slice a9 l9 c9, .int .i64 x.d, .int .i64 x.w] 29)).heap[W.heap.size]? = some (.cells #[.slice a0 l0 c0, .slice a1 l1 c1, .slice a2 l2 c2, .slice a3 l3 c3, .string x.globals, .slice a5 l5 c5, .slice a6 l6 c6, .slice a7 l7 c7, .slice a8 l8 c8, .slice a9 l9 c9, .int .i64 x.d, .int .i64 x.w] 29 (0, 0)) := heap_alloc_new W _
  have HI0 := Lib.hid hb0
  have HF0 := Lib.hid ((Fr.refl 64 5 B W).alloc hB (.cells #[.slice a0 l0 c0, .slice a1 l1 c1, .slice a2 l2 c2, .slice a3 l3 c3, .string x.globals, .slice a5 l5 c5, .slice a6 l6 c6, .slice a7 l7 c7, .slice a8 l8 c8, .slice a9 l9 c9, .int .i64 x.d, .int .i64 x.w] 29))
  have HW0 := Lib.hid (h.alloc (.cells #[.slice a0 l0 c0, .slice a1 l1 c1, .slice a2 l2 c2, .slice a3 l3 c3, .string x.globals, .slice a5 l5 c5, .slice a6 l6 c6, .slice a7 l7 c7, .slice a8 l8 c8, .slice a9 l9 c9, .int .i64 x.d, .int .i64 x.w] 29))
  have HR0 := Lib.hid h0
  have HR1 := Lib.hid h1
  have HR2 := Lib.hid h2
  have HR3 := Lib.hid h3
  have HR5 := Lib.hid h5
  have HR6 := Lib.hid h6
  have HR7 := Lib.hid h7
  have HR8 := Lib.hid h8
  have HR9 := Lib.hid h9
  clear hI h hb0 h0 h1 h2 h3 h5 h6 h7 h8 h9
  show Calls Tryz.prog 22 #[.pointer (some ⟨b, 0, none⟩), .agg #[.slice a0 l0 c0, .slice a1 l1 c1, .slice a2 l2 c2, .slice a3 l3 c3, .string x.globals, .slice a5 l5 c5, .slice a6 l6 c6, .slice a7 l7 c7, .slice a8 l8 c8, .slice a9 l9 c9, .int .i64 x.d, .int .i64 x.w]] W _
  go_enter Tryz.func22, Tryz.ntmps22
  have hc0 := listFaces 100040004 wr_texts grow_texts B b s a0 l0 c0 x.faces (W.alloc (.cells #[.slice a0 l0 c0, .slice a1 l1 c1, .slice a2 l2 c2, .slice a3 l3 c3, .string x.globals, .slice a5 l5 c5, .slice a6 l6 c6, .slice a7 l7 c7, .slice a8 l8 c8, .slice a9 l9 c9, .int .i64 x.d, .int .i64 x.w] 29)) (kept_row HR0.out HF0.out) HW0.out (by omega) (Nat.le_trans hB HF0.out.size)
  go_wp2_with (go_at_call 55; refine hc0.mono ?_)
  first | rintro e W1 rfl hw1 hf1 | rintro e W1 ⟨rfl, hw1, hf1⟩
  have hg1 : ((cList cTexts).w x.faces s).bs.length ≤ s.bs.length + 1000400040004 := grow_faces x.faces s
  obtain ⟨s1, hs1⟩ : ∃ t, t = ((cList cTexts).w x.faces s) := ⟨_, rfl⟩
  rw [← hs1] at hw1 hg1
  have HW1 := Lib.hid hw1
  have HS1 := Lib.hid hs1
  have HF1 := Lib.hid (HF0.out.trans hf1)
  have HI1 := Lib.hid ((hf1.oth _ _ _ _ HI0.out (by decide) (by decide)).trans HI0.out)
  clear hw1 hf1 hc0 hs1
  have e1 : W1.cell? ⟨W.heap.size, 1, none⟩ = some (.slice a1 l1 c1) := by rw [Lib.cell_of_heap HI1.out]; rfl
  have hc1 := listDescs 500210024 wr_desc grow_desc B b s1 a1 l1 c1 x.classes W1 (kept_row HR1.out HF1.out) HW1.out (by omega) (Nat.le_trans hB HF1.out.size)
  go_wp2_with (go_at_call 58; refine hc1.mono ?_)
  first | rintro e W2 rfl hw2 hf2 | rintro e W2 ⟨rfl, hw2, hf2⟩
  have hg2 : ((cList cDesc).w x.classes s1).bs.length ≤ s1.bs.length + 5002100240004 := grow_descs x.classes s1
  obtain ⟨s2, hs2⟩ : ∃ t, t = ((cList cDesc).w x.classes s1) := ⟨_, rfl⟩
  rw [← hs2] at hw2 hg2
  have HW2 := Lib.hid hw2
  have HS2 := Lib.hid hs2
  have HF2 := Lib.hid (HF1.out.trans hf2)
  have HI2 := Lib.hid ((hf2.oth _ _ _ _ HI1.out (by decide) (by decide)).trans HI1.out)
  clear hw2 hf2 hc1 hs2 e1
  have e2 : W2.cell? ⟨W.heap.size, 2, none⟩ = some (.slice a2 l2 c2) := by rw [Lib.cell_of_heap HI2.out]; rfl
  have hc2 := listCodes 140024 wr_code grow_code B b s2 a2 l2 c2 x.codes W2 (kept_row HR2.out HF2.out) HW2.out (by omega) (Nat.le_trans hB HF2.out.size)
  go_wp2_with (go_at_call 60; refine hc2.mono ?_)
  first | rintro e W3 rfl hw3 hf3 | rintro e W3 ⟨rfl, hw3, hf3⟩
  have hg3 : ((cList cCode).w x.codes s2).bs.length ≤ s2.bs.length + 1400240004 := grow_codes x.codes s2
  obtain ⟨s3, hs3⟩ : ∃ t, t = ((cList cCode).w x.codes s2) := ⟨_, rfl⟩
  rw [← hs3] at hw3 hg3
  have HW3 := Lib.hid hw3
  have HS3 := Lib.hid hs3
  have HF3 := Lib.hid (HF2.out.trans hf3)
  have HI3 := Lib.hid ((hf3.oth _ _ _ _ HI2.out (by decide) (by decide)).trans HI2.out)
  clear hw3 hf3 hc2 hs3 e2
  have e3 : W3.cell? ⟨W.heap.size, 3, none⟩ = some (.slice a3 l3 c3) := by rw [Lib.cell_of_heap HI3.out]; rfl
  have hc3 := wr_nums B b s3 [.slice a3 l3 c3] x.insts W3 (slice_is.2 ⟨_, _, _, rfl, (kept_row HR3.out HF3.out)⟩) HW3.out (by omega) (Nat.le_trans hB HF3.out.size)
  go_wp2_with (go_at_call 62; refine hc3.mono ?_)
  first | rintro e W4 rfl hw4 hf4 | rintro e W4 ⟨rfl, hw4, hf4⟩
  have hg4 : (cNums.w x.insts s3).bs.length ≤ s3.bs.length + 40004 := grow_nums x.insts s3
  obtain ⟨s4, hs4⟩ : ∃ t, t = (cNums.w x.insts s3) := ⟨_, rfl⟩
  rw [← hs4] at hw4 hg4
  have HW4 := Lib.hid hw4
  have HS4 := Lib.hid hs4
  have HF4 := Lib.hid (HF3.out.trans hf4)
  have HI4 := Lib.hid ((hf4.oth _ _ _ _ HI3.out (by decide) (by decide)).trans HI3.out)
  clear hw4 hf4 hc3 hs4 e3
  have e4 : W4.cell? ⟨W.heap.size, 4, none⟩ = some (.string x.globals) := by rw [Lib.cell_of_heap HI4.out]; rfl
  have hc4 := wr_text B b s4 [.string x.globals] x.globals W4 (show _ from rfl) HW4.out (by omega) (Nat.le_trans hB HF4.out.size)
  go_wp2_with (go_at_call 21; refine hc4.mono ?_)
  first | rintro e W5 rfl hw5 hf5 | rintro e W5 ⟨rfl, hw5, hf5⟩
  have hg5 : (cText.w x.globals s4).bs.length ≤ s4.bs.length + 10004 := grow_text x.globals s4
  obtain ⟨s5, hs5⟩ : ∃ t, t = (cText.w x.globals s4) := ⟨_, rfl⟩
  rw [← hs5] at hw5 hg5
  have HW5 := Lib.hid hw5
  have HS5 := Lib.hid hs5
  have HF5 := Lib.hid (HF4.out.trans hf5)
  have HI5 := Lib.hid ((hf5.oth _ _ _ _ HI4.out (by decide) (by decide)).trans HI4.out)
  clear hw5 hf5 hc4 hs5 e4
  have e5 : W5.cell? ⟨W.heap.size, 5, none⟩ = some (.slice a5 l5 c5) := by rw [Lib.cell_of_heap HI5.out]; rfl
  have hc5 := wr_nums B b s5 [.slice a5 l5 c5] x.init W5 (slice_is.2 ⟨_, _, _, rfl, (kept_row HR5.out HF5.out)⟩) HW5.out (by omega) (Nat.le_trans hB HF5.out.size)
  go_wp2_with (go_at_call 62; refine hc5.mono ?_)
  first | rintro e W6 rfl hw6 hf6 | rintro e W6 ⟨rfl, hw6, hf6⟩
  have hg6 : (cNums.w x.init s5).bs.length ≤ s5.bs.length + 40004 := grow_nums x.init s5
  obtain ⟨s6, hs6⟩ : ∃ t, t = (cNums.w x.init s5) := ⟨_, rfl⟩
  rw [← hs6] at hw6 hg6
  have HW6 := Lib.hid hw6
  have HS6 := Lib.hid hs6
  have HF6 := Lib.hid (HF5.out.trans hf6)
  have HI6 := Lib.hid ((hf6.oth _ _ _ _ HI5.out (by decide) (by decide)).trans HI5.out)
  clear hw6 hf6 hc5 hs6 e5
  have e6 : W6.cell? ⟨W.heap.size, 6, none⟩ = some (.slice a6 l6 c6) := by rw [Lib.cell_of_heap HI6.out]; rfl
  have hc6 := wr_nums B b s6 [.slice a6 l6 c6] x.blocks W6 (slice_is.2 ⟨_, _, _, rfl, (kept_row HR6.out HF6.out)⟩) HW6.out (by omega) (Nat.le_trans hB HF6.out.size)
  go_wp2_with (go_at_call 62; refine hc6.mono ?_)
  first | rintro e W7 rfl hw7 hf7 | rintro e W7 ⟨rfl, hw7, hf7⟩
  have hg7 : (cNums.w x.blocks s6).bs.length ≤ s6.bs.length + 40004 := grow_nums x.blocks s6
  obtain ⟨s7, hs7⟩ : ∃ t, t = (cNums.w x.blocks s6) := ⟨_, rfl⟩
  rw [← hs7] at hw7 hg7
  have HW7 := Lib.hid hw7
  have HS7 := Lib.hid hs7
  have HF7 := Lib.hid (HF6.out.trans hf7)
  have HI7 := Lib.hid ((hf7.oth _ _ _ _ HI6.out (by decide) (by decide)).trans HI6.out)
  clear hw7 hf7 hc6 hs7 e6
  have e7 : W7.cell? ⟨W.heap.size, 7, none⟩ = some (.slice a7 l7 c7) := by rw [Lib.cell_of_heap HI7.out]; rfl
  have hc7 := listLinks 12 wr_link grow_link B b s7 a7 l7 c7 x.ins W7 (kept_row HR7.out HF7.out) HW7.out (by omega) (Nat.le_trans hB HF7.out.size)
  go_wp2_with (go_at_call 63; refine hc7.mono ?_)
  first | rintro e W8 rfl hw8 hf8 | rintro e W8 ⟨rfl, hw8, hf8⟩
  have hg8 : ((cList cLink).w x.ins s7).bs.length ≤ s7.bs.length + 120004 := grow_links x.ins s7
  obtain ⟨s8, hs8⟩ : ∃ t, t = ((cList cLink).w x.ins s7) := ⟨_, rfl⟩
  rw [← hs8] at hw8 hg8
  have HW8 := Lib.hid hw8
  have HS8 := Lib.hid hs8
  have HF8 := Lib.hid (HF7.out.trans hf8)
  have HI8 := Lib.hid ((hf8.oth _ _ _ _ HI7.out (by decide) (by decide)).trans HI7.out)
  clear hw8 hf8 hc7 hs8 e7
  have e8 : W8.cell? ⟨W.heap.size, 8, none⟩ = some (.slice a8 l8 c8) := by rw [Lib.cell_of_heap HI8.out]; rfl
  have hc8 := listLinks 12 wr_link grow_link B b s8 a8 l8 c8 x.outs W8 (kept_row HR8.out HF8.out) HW8.out (by omega) (Nat.le_trans hB HF8.out.size)
  go_wp2_with (go_at_call 63; refine hc8.mono ?_)
  first | rintro e W9 rfl hw9 hf9 | rintro e W9 ⟨rfl, hw9, hf9⟩
  have hg9 : ((cList cLink).w x.outs s8).bs.length ≤ s8.bs.length + 120004 := grow_links x.outs s8
  obtain ⟨s9, hs9⟩ : ∃ t, t = ((cList cLink).w x.outs s8) := ⟨_, rfl⟩
  rw [← hs9] at hw9 hg9
  have HW9 := Lib.hid hw9
  have HS9 := Lib.hid hs9
  have HF9 := Lib.hid (HF8.out.trans hf9)
  have HI9 := Lib.hid ((hf9.oth _ _ _ _ HI8.out (by decide) (by decide)).trans HI8.out)
  clear hw9 hf9 hc8 hs9 e8
  have e9 : W9.cell? ⟨W.heap.size, 9, none⟩ = some (.slice a9 l9 c9) := by rw [Lib.cell_of_heap HI9.out]; rfl
  have hc9 := listJobs 12 wr_job grow_job B b s9 a9 l9 c9 x.jobs W9 (kept_row HR9.out HF9.out) HW9.out (by omega) (Nat.le_trans hB HF9.out.size)
  go_wp2_with (go_at_call 65; refine hc9.mono ?_)
  first | rintro e W10 rfl hw10 hf10 | rintro e W10 ⟨rfl, hw10, hf10⟩
  have hg10 : ((cList cJob).w x.jobs s9).bs.length ≤ s9.bs.length + 120004 := grow_jobs x.jobs s9
  obtain ⟨s10, hs10⟩ : ∃ t, t = ((cList cJob).w x.jobs s9) := ⟨_, rfl⟩
  rw [← hs10] at hw10 hg10
  have HW10 := Lib.hid hw10
  have HS10 := Lib.hid hs10
  have HF10 := Lib.hid (HF9.out.trans hf10)
  have HI10 := Lib.hid ((hf10.oth _ _ _ _ HI9.out (by decide) (by decide)).trans HI9.out)
  clear hw10 hf10 hc9 hs10 e9
  have e10 : W10.cell? ⟨W.heap.size, 10, none⟩ = some (.int .i64 x.d) := by rw [Lib.cell_of_heap HI10.out]; rfl
  have hc10 := wr_num B b s10 [.int .i64 x.d] x.d W10 (show _ from rfl) HW10.out (by omega) (Nat.le_trans hB HF10.out.size)
  go_wp2_with (go_at_call 67; refine hc10.mono ?_)
  first | rintro e W11 rfl hw11 hf11 | rintro e W11 ⟨rfl, hw11, hf11⟩
  have hg11 : (cNum.w x.d s10).bs.length ≤ s10.bs.length + 4 := grow_num x.d s10
  obtain ⟨s11, hs11⟩ : ∃ t, t = (cNum.w x.d s10) := ⟨_, rfl⟩
  rw [← hs11] at hw11 hg11
  have HW11 := Lib.hid hw11
  have HS11 := Lib.hid hs11
  have HF11 := Lib.hid (HF10.out.trans hf11)
  have HI11 := Lib.hid ((hf11.oth _ _ _ _ HI10.out (by decide) (by decide)).trans HI10.out)
  clear hw11 hf11 hc10 hs11 e10
  have e11 : W11.cell? ⟨W.heap.size, 11, none⟩ = some (.int .i64 x.w) := by rw [Lib.cell_of_heap HI11.out]; rfl
  have hc11 := wr_num B b s11 [.int .i64 x.w] x.w W11 (show _ from rfl) HW11.out (by omega) (Nat.le_trans hB HF11.out.size)
  go_wp2_with (go_at_call 67; refine hc11.mono ?_)
  first | rintro e W12 rfl hw12 hf12 | rintro e W12 ⟨rfl, hw12, hf12⟩
  have hg12 : (cNum.w x.w s11).bs.length ≤ s11.bs.length + 4 := grow_num x.w s11
  obtain ⟨s12, hs12⟩ : ∃ t, t = (cNum.w x.w s11) := ⟨_, rfl⟩
  rw [← hs12] at hw12 hg12
  have HW12 := Lib.hid hw12
  have HS12 := Lib.hid hs12
  have HF12 := Lib.hid (HF11.out.trans hf12)
  have HI12 := Lib.hid ((hf12.oth _ _ _ _ HI11.out (by decide) (by decide)).trans HI11.out)
  clear hw12 hf12 hc11 hs12 e11
  go_wp2_with fail
  go_returns
  refine ⟨rfl, ?_, HF12.out⟩
  have hh := HW12.out
  rw [HS12.out, HS11.out, HS10.out, HS9.out, HS8.out, HS7.out, HS6.out, HS5.out, HS4.out, HS3.out, HS2.out, HS1.out] at hh
  exact hh
end Go.Proofs.YtoaohoeghlidaaaGreatDoor
