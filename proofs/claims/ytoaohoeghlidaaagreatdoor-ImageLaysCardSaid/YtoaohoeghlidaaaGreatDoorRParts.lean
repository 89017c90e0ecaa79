/-
  The program's reader: the parts of an image.
-/
import Derived.Test.YtoaohoeghlidaaaGreatDoorRMany
namespace Go.Proofs.YtoaohoeghlidaaaGreatDoor
open Go.ChangeShapes Go.WideShapes Go.ChangeAt Go.RowKit

theorem rd_num : Rd 90 mk1 shInt cNum [] := by
  intro B b s W h
  exact (rnumber_any B b s W h).mono fun e W' ⟨he, hr, hf⟩ => ⟨[.int .i64 (rNum B s).1], he, rfl, hr, hf⟩
theorem rd_text : Rd 44 mk1 shStr cText [] := by
  intro B b s W h
  exact (rtext_any B b s W h).mono fun e W' ⟨he, hr, hf⟩ => ⟨[.string (rText B s).1], he, rfl, hr, hf⟩
theorem rd_flag : Rd 104 mk1 shBool cFlag [] := by
  intro B b s W h
  exact (rflag_any B b s W h).mono fun e W' ⟨he, hr, hf⟩ => ⟨[.bool (rFlag B s).1], he, rfl, hr, hf⟩
set_option maxRecDepth 100000 in
theorem rd_nums : Rd 85 mk1 shInts cNums [3] := by
  intro B b s W h
  have hc := severalInts rd_num B b s W h
  clear h
  obtain ⟨R, hR⟩ : ∃ R, cNums.r B s = R := ⟨_, rfl⟩
  rw [hR]
  rw [show (cList cNum).r B s = R from hR] at hc
  clear hR
  go_enter Tryz.func85, Tryz.ntmps85
  go_wp2_with (go_at_call 107; refine hc.mono ?_)
  rintro e W1 ⟨vs, rfl, hI, hr, hf⟩
  obtain ⟨a, l, c, rfl, hrow⟩ := slice_is.1 hI
  have HRW := Lib.hid hrow
  have HR := Lib.hid hr
  have HF := Lib.hid hf
  clear hI hr hf hc hrow
  simp only [mk1, List.headD_cons]
  go_wp2_with fail
  go_returns
  exact ⟨_, rfl, ⟨a, l, c, rfl, HRW.out⟩, HR.out, HF.out⟩
set_option maxRecDepth 100000 in
theorem rd_texts : Rd 80 mk1 shTexts cTexts [9] := by
  intro B b s W h
  have hc := severalTexts rd_text B b s W h
  clear h
  obtain ⟨R, hR⟩ : ∃ R, cTexts.r B s = R := ⟨_, rfl⟩
  rw [hR]
  rw [show (cList cText).r B s = R from hR] at hc
  clear hR
  go_enter Tryz.func80, Tryz.ntmps80
  go_wp2_with (go_at_call 101; refine hc.mono ?_)
  rintro e W1 ⟨vs, rfl, hI, hr, hf⟩
  obtain ⟨a, l, c, rfl, hrow⟩ := slice_is.1 hI
  have HRW := Lib.hid hrow
  have HR := Lib.hid hr
  have HF := Lib.hid hf
  clear hI hr hf hc hrow
  simp only [mk1, List.headD_cons]
  go_wp2_with fail
  go_returns
  exact ⟨_, rfl, ⟨a, l, c, rfl, HRW.out⟩, HR.out, HF.out⟩
theorem heap_set {w : World} {g j : Nat} {cur : Array Value} {t : TypeId} {fz : Nat × Nat} (u : Value) (h : w.heap[g]? = some (.cells cur t fz)) : (w.setCell ⟨g, j, none⟩ u).heap[g]? = some (.cells (cur.setIfInBounds j u) t fz) := by
  simp [World.setCell, Array.getElem?_modify, h]
theorem Kp.set {lo : Nat} {ts : List TypeId} {W : World} {q o : Nat} {cur : Array Value} {t : TypeId} {fz : Nat × Nat} (h : W.heap[q]? = some (.cells cur t fz)) (ht : t ∉ ts) (u : Value) : Kp lo ts W (W.setCell ⟨q, o, none⟩ u) :=
  fun k _ _ _ _ hc h' => setCell_rest _ _ _ _ (fun e => by subst e; rw [h] at hc; cases hc; exact ht h')
theorem row_step {T : Type} {sh : Sh T} {lo lo' : Nat} {ts ts' : List TypeId} {W W' : World} {a : Option Addr} {l : Nat} {xs : List T} (h : Row sh (SB lo ts W) W a l xs) (hk : Kp lo ts W W') (hl : lo' ≤ lo) (ht : ∀ t, t ∈ ts → t ∈ ts') : Row sh (SB lo' ts' W') W' a l xs :=
  (h.keep (fun k ⟨h1, cs, t, fz, h2, h3⟩ => hk k cs t fz h1 h2 h3)).wide (fun k ⟨h1, cs, t, fz, h2, h3⟩ => ⟨Nat.le_trans hl h1, cs, t, fz, (hk k cs t fz h1 h2 h3).trans h2, ht t h3⟩)
theorem RAt.set {W : World} {b : Nat} {B : List UInt8} {s : Rst} (h : RAt W b B s) {q o : Nat} (hq : b < q) (u : Value) : RAt (W.setCell ⟨q, o, none⟩ u) b B s := h.kept (fun k hk => setCell_rest _ _ _ _ (by simp; omega))
theorem sub1_table : ∀ t, t ∈ ([3] : List TypeId) → t ∈ ([3] : List TypeId) := by decide

set_option maxHeartbeats 2000000 in
set_option maxRecDepth 100000 in
theorem rd_table : Rd 103 mkA shTable cTable [3] := by
  intro B b s W h
  have hblt := h.lt
  obtain ⟨R, hR⟩ : ∃ R, cTable.r B s = R := ⟨_, rfl⟩
  rw [hR]
  have HRES := Lib.hid hR
  have HI0 := Lib.hid (show (W.alloc (.cells #[.int .i64 0, .slice none 0 0] 58)).heap[W.heap.size]? = some (.cells #[.int .i64 0, .slice none 0 0] 58 (0, 0)) from heap_alloc_new W _)
  have HF0 := Lib.hid ((KFr.refl b W).alloc (.cells #[.int .i64 0, .slice none 0 0] 58))
  have HR0 := Lib.hid (h.alloc (.cells #[.int .i64 0, .slice none 0 0] 58))
  clear h hR
  go_enter Tryz.func103, Tryz.ntmps103
  have hc0 := rd_num B b s (W.alloc (.cells #[.int .i64 0, .slice none 0 0] 58)) HR0.out
  obtain ⟨⟨x0, t1⟩, hx0⟩ : ∃ r, cNum.r B s = r := ⟨_, rfl⟩
  rw [hx0] at hc0
  simp only at hc0
  have HX0 := Lib.hid hx0
  clear hx0
  go_wp2_with (go_at_call 90; refine hc0.mono ?_)
  rintro e W1 ⟨vs, rfl, hI, hr, hf⟩
  obtain rfl : vs = [.int .i64 x0] := hI
  simp only [mk1, List.headD_cons]
  have HR1 := Lib.hid hr
  have HK1 := Lib.hid hf
  have HF1 := Lib.hid (HF0.out.trans hf)
  have HI1 := Lib.hid ((hf.block _ (heap_lt HI0.out) (by omega)).trans HI0.out)
  clear hr hf hc0
  have hc1 := rd_nums B b t1 W1 HR1.out
  obtain ⟨⟨x1, t2⟩, hx1⟩ : ∃ r, cNums.r B t1 = r := ⟨_, rfl⟩
  rw [hx1] at hc1
  simp only at hc1
  have HX1 := Lib.hid hx1
  clear hx1
  go_wp2_with (go_at_call 85; refine hc1.mono ?_)
  rintro e W2 ⟨vs, rfl, hI, hr, hf⟩
  obtain ⟨a1, l1, c1, rfl, hrow⟩ := slice_is.1 hI
  have HRW1 := Lib.hid hrow
  clear hI hrow
  simp only [mk1, List.headD_cons]
  have HR2 := Lib.hid hr
  have HK2 := Lib.hid hf
  have HF2 := Lib.hid (HF1.out.trans hf)
  have HI2 := Lib.hid ((hf.block _ (heap_lt HI1.out) (by omega)).trans HI1.out)
  clear hr hf hc1
  have f0 := fun o => Lib.frozen_of_heap HI2.out o
  have e0 : W2.cell? ⟨W.heap.size, 0, none⟩ = some (.int .i64 0) := by rw [Lib.cell_of_heap HI2.out]; rfl
  have e1 : W2.cell? ⟨W.heap.size, 1, none⟩ = some (.slice none 0 0) := by rw [Lib.cell_of_heap HI2.out]; rfl
  have HB0 := Lib.hid HI2.out
  have HKP0 : Kp W.heap.size [3] W2 W2 := fun _ _ _ _ _ _ _ => rfl
  have HG0 := Lib.hid HF2.out
  have HRR0 := Lib.hid HR2.out
  have HB1 := Lib.hid (heap_set (j := 0) (.int .i64 x0) HB0.out)
  have HKP1 := HKP0.trans (Kp.set (o := 0) HB0.out (by decide) (.int .i64 x0))
  have HG1 := Lib.hid (HG0.out.set (p := ⟨W.heap.size, 0, none⟩) (.inr (Nat.le_refl _)) (.int .i64 x0))
  have HRR1 := Lib.hid (HRR0.out.set (o := 0) hblt (.int .i64 x0))
  have HB2 := Lib.hid (heap_set (j := 1) (.slice a1 l1 c1) HB1.out)
  have HKP2 := HKP1.trans (Kp.set (o := 1) HB1.out (by decide) (.slice a1 l1 c1))
  have HG2 := Lib.hid (HG1.out.set (p := ⟨W.heap.size, 1, none⟩) (.inr (Nat.le_refl _)) (.slice a1 l1 c1))
  have HRR2 := Lib.hid (HRR1.out.set (o := 1) hblt (.slice a1 l1 c1))
  have HBN := Lib.hid (show ((W2.setCell ⟨W.heap.size, 0, none⟩ (.int .i64 x0)).setCell ⟨W.heap.size, 1, none⟩ (.slice a1 l1 c1)).heap[W.heap.size]? = some (.cells #[.int .i64 x0, .slice a1 l1 c1] 58 (0, 0)) from HB2.out)
  have HRN1 := Lib.hid (row_step HRW1.out (fun k cs t fz hk hc ht => HKP2 k cs t fz (Nat.le_trans HF1.out.size hk) hc (by revert ht; exact sub1_table t)) HF1.out.size sub1_table)
  clear HKP0 HKP1 HKP2
  go_wp2_with fail
  generalize ((W2.setCell ⟨W.heap.size, 0, none⟩ (.int .i64 x0)).setCell ⟨W.heap.size, 1, none⟩ (.slice a1 l1 c1)) = W9 at *
  have b0 : W9.cell? ⟨W.heap.size, 0, none⟩ = some (.int .i64 x0) := by rw [Lib.cell_of_heap HBN.out]; rfl
  have b1 : W9.cell? ⟨W.heap.size, 1, none⟩ = some (.slice a1 l1 c1) := by rw [Lib.cell_of_heap HBN.out]; rfl
  refine bodyPost_ret (by simp [results, Tryz.results103, go_sem, b0, b1]; try rfl) rfl ?_
  have hR : R = (⟨x0, x1⟩, t2) := by
    rw [← HRES.out]
    have e0 := HX0.out
    show ((⟨(cNum.r B s).1, (cNums.r B (cNum.r B s).2).1⟩ : TableD), (cNums.r B (cNum.r B s).2).2) = _
    rw [HX0.out, HX1.out]
  rw [hR]
  exact ⟨_, rfl, table_is.2 ⟨_, _, _, rfl, HRN1.out⟩, HRR2.out, HG2.out⟩

set_option maxHeartbeats 2000000 in
set_option maxRecDepth 100000 in
theorem rd_op : Rd 106 mkA shOp cOp [] := by
  intro B b s W h
  have hblt := h.lt
  obtain ⟨R, hR⟩ : ∃ R, cOp.r B s = R := ⟨_, rfl⟩
  rw [hR]
  have HRES := Lib.hid hR
  have HI0 := Lib.hid (show (W.alloc (.cells #[.int .i64 0, .int .i64 0, .int .i64 0] 127)).heap[W.heap.size]? = some (.cells #[.int .i64 0, .int .i64 0, .int .i64 0] 127 (0, 0)) from heap_alloc_new W _)
  have HF0 := Lib.hid ((KFr.refl b W).alloc (.cells #[.int .i64 0, .int .i64 0, .int .i64 0] 127))
  have HR0 := Lib.hid (h.alloc (.cells #[.int .i64 0, .int .i64 0, .int .i64 0] 127))
  clear h hR
  go_enter Tryz.func106, Tryz.ntmps106
  have hc0 := rd_num B b s (W.alloc (.cells #[.int .i64 0, .int .i64 0, .int .i64 0] 127)) HR0.out
  obtain ⟨⟨x0, t1⟩, hx0⟩ : ∃ r, cNum.r B s = r := ⟨_, rfl⟩
  rw [hx0] at hc0
  simp only at hc0
  have HX0 := Lib.hid hx0
  clear hx0
  go_wp2_with (go_at_call 90; refine hc0.mono ?_)
  rintro e W1 ⟨vs, rfl, hI, hr, hf⟩
  obtain rfl : vs = [.int .i64 x0] := hI
  simp only [mk1, List.headD_cons]
  have HR1 := Lib.hid hr
  have HK1 := Lib.hid hf
  have HF1 := Lib.hid (HF0.out.trans hf)
  have HI1 := Lib.hid ((hf.block _ (heap_lt HI0.out) (by omega)).trans HI0.out)
  clear hr hf hc0
  have hc1 := rd_num B b t1 W1 HR1.out
  obtain ⟨⟨x1, t2⟩, hx1⟩ : ∃ r, cNum.r B t1 = r := ⟨_, rfl⟩
  rw [hx1] at hc1
  simp only at hc1
  have HX1 := Lib.hid hx1
  clear hx1
  go_wp2_with (go_at_call 90; refine hc1.mono ?_)
  rintro e W2 ⟨vs, rfl, hI, hr, hf⟩
  obtain rfl : vs = [.int .i64 x1] := hI
  simp only [mk1, List.headD_cons]
  have HR2 := Lib.hid hr
  have HK2 := Lib.hid hf
  have HF2 := Lib.hid (HF1.out.trans hf)
  have HI2 := Lib.hid ((hf.block _ (heap_lt HI1.out) (by omega)).trans HI1.out)
  clear hr hf hc1
  have hc2 := rd_num B b t2 W2 HR2.out
  obtain ⟨⟨x2, t3⟩, hx2⟩ : ∃ r, cNum.r B t2 = r := ⟨_, rfl⟩
  rw [hx2] at hc2
  simp only at hc2
  have HX2 := Lib.hid hx2
  clear hx2
  go_wp2_with (go_at_call 90; refine hc2.mono ?_)
  rintro e W3 ⟨vs, rfl, hI, hr, hf⟩
  obtain rfl : vs = [.int .i64 x2] := hI
  simp only [mk1, List.headD_cons]
  have HR3 := Lib.hid hr
  have HK3 := Lib.hid hf
  have HF3 := Lib.hid (HF2.out.trans hf)
  have HI3 := Lib.hid ((hf.block _ (heap_lt HI2.out) (by omega)).trans HI2.out)
  clear hr hf hc2
  have f0 := fun o => Lib.frozen_of_heap HI3.out o
  have e0 : W3.cell? ⟨W.heap.size, 0, none⟩ = some (.int .i64 0) := by rw [Lib.cell_of_heap HI3.out]; rfl
  have e1 : W3.cell? ⟨W.heap.size, 1, none⟩ = some (.int .i64 0) := by rw [Lib.cell_of_heap HI3.out]; rfl
  have e2 : W3.cell? ⟨W.heap.size, 2, none⟩ = some (.int .i64 0) := by rw [Lib.cell_of_heap HI3.out]; rfl
  have HB0 := Lib.hid HI3.out
  have HKP0 : Kp W.heap.size [] W3 W3 := fun _ _ _ _ _ _ _ => rfl
  have HG0 := Lib.hid HF3.out
  have HRR0 := Lib.hid HR3.out
  have HB1 := Lib.hid (heap_set (j := 0) (.int .i64 x0) HB0.out)
  have HKP1 := HKP0.trans (Kp.set (o := 0) HB0.out (by decide) (.int .i64 x0))
  have HG1 := Lib.hid (HG0.out.set (p := ⟨W.heap.size, 0, none⟩) (.inr (Nat.le_refl _)) (.int .i64 x0))
  have HRR1 := Lib.hid (HRR0.out.set (o := 0) hblt (.int .i64 x0))
  have HB2 := Lib.hid (heap_set (j := 1) (.int .i64 x1) HB1.out)
  have HKP2 := HKP1.trans (Kp.set (o := 1) HB1.out (by decide) (.int .i64 x1))
  have HG2 := Lib.hid (HG1.out.set (p := ⟨W.heap.size, 1, none⟩) (.inr (Nat.le_refl _)) (.int .i64 x1))
  have HRR2 := Lib.hid (HRR1.out.set (o := 1) hblt (.int .i64 x1))
  have HB3 := Lib.hid (heap_set (j := 2) (.int .i64 x2) HB2.out)
  have HKP3 := HKP2.trans (Kp.set (o := 2) HB2.out (by decide) (.int .i64 x2))
  have HG3 := Lib.hid (HG2.out.set (p := ⟨W.heap.size, 2, none⟩) (.inr (Nat.le_refl _)) (.int .i64 x2))
  have HRR3 := Lib.hid (HRR2.out.set (o := 2) hblt (.int .i64 x2))
  have HBN := Lib.hid (show (((W3.setCell ⟨W.heap.size, 0, none⟩ (.int .i64 x0)).setCell ⟨W.heap.size, 1, none⟩ (.int .i64 x1)).setCell ⟨W.heap.size, 2, none⟩ (.int .i64 x2)).heap[W.heap.size]? = some (.cells #[.int .i64 x0, .int .i64 x1, .int .i64 x2] 127 (0, 0)) from HB3.out)
  clear HKP0 HKP1 HKP2 HKP3
  go_wp2_with fail
  generalize (((W3.setCell ⟨W.heap.size, 0, none⟩ (.int .i64 x0)).setCell ⟨W.heap.size, 1, none⟩ (.int .i64 x1)).setCell ⟨W.heap.size, 2, none⟩ (.int .i64 x2)) = W9 at *
  have b0 : W9.cell? ⟨W.heap.size, 0, none⟩ = some (.int .i64 x0) := by rw [Lib.cell_of_heap HBN.out]; rfl
  have b1 : W9.cell? ⟨W.heap.size, 1, none⟩ = some (.int .i64 x1) := by rw [Lib.cell_of_heap HBN.out]; rfl
  have b2 : W9.cell? ⟨W.heap.size, 2, none⟩ = some (.int .i64 x2) := by rw [Lib.cell_of_heap HBN.out]; rfl
  refine bodyPost_ret (by simp [results, Tryz.results106, go_sem, b0, b1, b2]; try rfl) rfl ?_
  have hR : R = (⟨x0, x1, x2⟩, t3) := by
    rw [← HRES.out]
    have e0 := HX0.out
    show ((⟨(cNum.r B s).1, (cNum.r B (cNum.r B s).2).1, (cNum.r B (cNum.r B (cNum.r B s).2).2).1⟩ : OpD), (cNum.r B (cNum.r B (cNum.r B s).2).2).2) = _
    rw [HX0.out, HX1.out, HX2.out]
  rw [hR]
  exact ⟨_, rfl, op_is.2 rfl, HRR3.out, HG3.out⟩

set_option maxHeartbeats 2000000 in
set_option maxRecDepth 100000 in
theorem rd_link : Rd 87 mkA shLink cLink [] := by
  intro B b s W h
  have hblt := h.lt
  obtain ⟨R, hR⟩ : ∃ R, cLink.r B s = R := ⟨_, rfl⟩
  rw [hR]
  have HRES := Lib.hid hR
  have HI0 := Lib.hid (show (W.alloc (.cells #[.int .i64 0, .int .i64 0, .bool false] 90)).heap[W.heap.size]? = some (.cells #[.int .i64 0, .int .i64 0, .bool false] 90 (0, 0)) from heap_alloc_new W _)
  have HF0 := Lib.hid ((KFr.refl b W).alloc (.cells #[.int .i64 0, .int .i64 0, .bool false] 90))
  have HR0 := Lib.hid (h.alloc (.cells #[.int .i64 0, .int .i64 0, .bool false] 90))
  clear h hR
  go_enter Tryz.func87, Tryz.ntmps87
  have hc0 := rd_num B b s (W.alloc (.cells #[.int .i64 0, .int .i64 0, .bool false] 90)) HR0.out
  obtain ⟨⟨x0, t1⟩, hx0⟩ : ∃ r, cNum.r B s = r := ⟨_, rfl⟩
  rw [hx0] at hc0
  simp only at hc0
  have HX0 := Lib.hid hx0
  clear hx0
  go_wp2_with (go_at_call 90; refine hc0.mono ?_)
  rintro e W1 ⟨vs, rfl, hI, hr, hf⟩
  obtain rfl : vs = [.int .i64 x0] := hI
  simp only [mk1, List.headD_cons]
  have HR1 := Lib.hid hr
  have HK1 := Lib.hid hf
  have HF1 := Lib.hid (HF0.out.trans hf)
  have HI1 := Lib.hid ((hf.block _ (heap_lt HI0.out) (by omega)).trans HI0.out)
  clear hr hf hc0
  have hc1 := rd_num B b t1 W1 HR1.out
  obtain ⟨⟨x1, t2⟩, hx1⟩ : ∃ r, cNum.r B t1 = r := ⟨_, rfl⟩
  rw [hx1] at hc1
  simp only at hc1
  have HX1 := Lib.hid hx1
  clear hx1
  go_wp2_with (go_at_call 90; refine hc1.mono ?_)
  rintro e W2 ⟨vs, rfl, hI, hr, hf⟩
  obtain rfl : vs = [.int .i64 x1] := hI
  simp only [mk1, List.headD_cons]
  have HR2 := Lib.hid hr
  have HK2 := Lib.hid hf
  have HF2 := Lib.hid (HF1.out.trans hf)
  have HI2 := Lib.hid ((hf.block _ (heap_lt HI1.out) (by omega)).trans HI1.out)
  clear hr hf hc1
  have hc2 := rd_flag B b t2 W2 HR2.out
  obtain ⟨⟨x2, t3⟩, hx2⟩ : ∃ r, cFlag.r B t2 = r := ⟨_, rfl⟩
  rw [hx2] at hc2
  simp only at hc2
  have HX2 := Lib.hid hx2
  clear hx2
  go_wp2_with (go_at_call 104; refine hc2.mono ?_)
  rintro e W3 ⟨vs, rfl, hI, hr, hf⟩
  obtain rfl : vs = [.bool x2] := hI
  simp only [mk1, List.headD_cons]
  have HR3 := Lib.hid hr
  have HK3 := Lib.hid hf
  have HF3 := Lib.hid (HF2.out.trans hf)
  have HI3 := Lib.hid ((hf.block _ (heap_lt HI2.out) (by omega)).trans HI2.out)
  clear hr hf hc2
  have f0 := fun o => Lib.frozen_of_heap HI3.out o
  have e0 : W3.cell? ⟨W.heap.size, 0, none⟩ = some (.int .i64 0) := by rw [Lib.cell_of_heap HI3.out]; rfl
  have e1 : W3.cell? ⟨W.heap.size, 1, none⟩ = some (.int .i64 0) := by rw [Lib.cell_of_heap HI3.out]; rfl
  have e2 : W3.cell? ⟨W.heap.size, 2, none⟩ = some (.bool false) := by rw [Lib.cell_of_heap HI3.out]; rfl
  have HB0 := Lib.hid HI3.out
  have HKP0 : Kp W.heap.size [] W3 W3 := fun _ _ _ _ _ _ _ => rfl
  have HG0 := Lib.hid HF3.out
  have HRR0 := Lib.hid HR3.out
  have HB1 := Lib.hid (heap_set (j := 0) (.int .i64 x0) HB0.out)
  have HKP1 := HKP0.trans (Kp.set (o := 0) HB0.out (by decide) (.int .i64 x0))
  have HG1 := Lib.hid (HG0.out.set (p := ⟨W.heap.size, 0, none⟩) (.inr (Nat.le_refl _)) (.int .i64 x0))
  have HRR1 := Lib.hid (HRR0.out.set (o := 0) hblt (.int .i64 x0))
  have HB2 := Lib.hid (heap_set (j := 1) (.int .i64 x1) HB1.out)
  have HKP2 := HKP1.trans (Kp.set (o := 1) HB1.out (by decide) (.int .i64 x1))
  have HG2 := Lib.hid (HG1.out.set (p := ⟨W.heap.size, 1, none⟩) (.inr (Nat.le_refl _)) (.int .i64 x1))
  have HRR2 := Lib.hid (HRR1.out.set (o := 1) hblt (.int .i64 x1))
  have HB3 := Lib.hid (heap_set (j := 2) (.bool x2) HB2.out)
  have HKP3 := HKP2.trans (Kp.set (o := 2) HB2.out (by decide) (.bool x2))
  have HG3 := Lib.hid (HG2.out.set (p := ⟨W.heap.size, 2, none⟩) (.inr (Nat.le_refl _)) (.bool x2))
  have HRR3 := Lib.hid (HRR2.out.set (o := 2) hblt (.bool x2))
  have HBN := Lib.hid (show (((W3.setCell ⟨W.heap.size, 0, none⟩ (.int .i64 x0)).setCell ⟨W.heap.size, 1, none⟩ (.int .i64 x1)).setCell ⟨W.heap.size, 2, none⟩ (.bool x2)).heap[W.heap.size]? = some (.cells #[.int .i64 x0, .int .i64 x1, .bool x2] 90 (0, 0)) from HB3.out)
  clear HKP0 HKP1 HKP2 HKP3
  go_wp2_with fail
  generalize (((W3.setCell ⟨W.heap.size, 0, none⟩ (.int .i64 x0)).setCell ⟨W.heap.size, 1, none⟩ (.int .i64 x1)).setCell ⟨W.heap.size, 2, none⟩ (.bool x2)) = W9 at *
  have b0 : W9.cell? ⟨W.heap.size, 0, none⟩ = some (.int .i64 x0) := by rw [Lib.cell_of_heap HBN.out]; rfl
  have b1 : W9.cell? ⟨W.heap.size, 1, none⟩ = some (.int .i64 x1) := by rw [Lib.cell_of_heap HBN.out]; rfl
  have b2 : W9.cell? ⟨W.heap.size, 2, none⟩ = some (.bool x2) := by rw [Lib.cell_of_heap HBN.out]; rfl
  refine bodyPost_ret (by simp [results, Tryz.results87, go_sem, b0, b1, b2]; try rfl) rfl ?_
  have hR : R = (⟨x0, x1, x2⟩, t3) := by
    rw [← HRES.out]
    have e0 := HX0.out
    show ((⟨(cNum.r B s).1, (cNum.r B (cNum.r B s).2).1, (cFlag.r B (cNum.r B (cNum.r B s).2).2).1⟩ : LinkD), (cFlag.r B (cNum.r B (cNum.r B s).2).2).2) = _
    rw [HX0.out, HX1.out, HX2.out]
  rw [hR]
  exact ⟨_, rfl, link_is.2 rfl, HRR3.out, HG3.out⟩

set_option maxHeartbeats 2000000 in
set_option maxRecDepth 100000 in
theorem rd_job : Rd 89 mkA shJob cJob [] := by
  intro B b s W h
  have hblt := h.lt
  obtain ⟨R, hR⟩ : ∃ R, cJob.r B s = R := ⟨_, rfl⟩
  rw [hR]
  have HRES := Lib.hid hR
  have HI0 := Lib.hid (show (W.alloc (.cells #[.int .i64 0, .int .i64 0, .int .i64 0] 78)).heap[W.heap.size]? = some (.cells #[.int .i64 0, .int .i64 0, .int .i64 0] 78 (0, 0)) from heap_alloc_new W _)
  have HF0 := Lib.hid ((KFr.refl b W).alloc (.cells #[.int .i64 0, .int .i64 0, .int .i64 0] 78))
  have HR0 := Lib.hid (h.alloc (.cells #[.int .i64 0, .int .i64 0, .int .i64 0] 78))
  clear h hR
  go_enter Tryz.func89, Tryz.ntmps89
  have hc0 := rd_num B b s (W.alloc (.cells #[.int .i64 0, .int .i64 0, .int .i64 0] 78)) HR0.out
  obtain ⟨⟨x0, t1⟩, hx0⟩ : ∃ r, cNum.r B s = r := ⟨_, rfl⟩
  rw [hx0] at hc0
  simp only at hc0
  have HX0 := Lib.hid hx0
  clear hx0
  go_wp2_with (go_at_call 90; refine hc0.mono ?_)
  rintro e W1 ⟨vs, rfl, hI, hr, hf⟩
  obtain rfl : vs = [.int .i64 x0] := hI
  simp only [mk1, List.headD_cons]
  have HR1 := Lib.hid hr
  have HK1 := Lib.hid hf
  have HF1 := Lib.hid (HF0.out.trans hf)
  have HI1 := Lib.hid ((hf.block _ (heap_lt HI0.out) (by omega)).trans HI0.out)
  clear hr hf hc0
  have hc1 := rd_num B b t1 W1 HR1.out
  obtain ⟨⟨x1, t2⟩, hx1⟩ : ∃ r, cNum.r B t1 = r := ⟨_, rfl⟩
  rw [hx1] at hc1
  simp only at hc1
  have HX1 := Lib.hid hx1
  clear hx1
  go_wp2_with (go_at_call 90; refine hc1.mono ?_)
  rintro e W2 ⟨vs, rfl, hI, hr, hf⟩
  obtain rfl : vs = [.int .i64 x1] := hI
  simp only [mk1, List.headD_cons]
  have HR2 := Lib.hid hr
  have HK2 := Lib.hid hf
  have HF2 := Lib.hid (HF1.out.trans hf)
  have HI2 := Lib.hid ((hf.block _ (heap_lt HI1.out) (by omega)).trans HI1.out)
  clear hr hf hc1
  have hc2 := rd_num B b t2 W2 HR2.out
  obtain ⟨⟨x2, t3⟩, hx2⟩ : ∃ r, cNum.r B t2 = r := ⟨_, rfl⟩
  rw [hx2] at hc2
  simp only at hc2
  have HX2 := Lib.hid hx2
  clear hx2
  go_wp2_with (go_at_call 90; refine hc2.mono ?_)
  rintro e W3 ⟨vs, rfl, hI, hr, hf⟩
  obtain rfl : vs = [.int .i64 x2] := hI
  simp only [mk1, List.headD_cons]
  have HR3 := Lib.hid hr
  have HK3 := Lib.hid hf
  have HF3 := Lib.hid (HF2.out.trans hf)
  have HI3 := Lib.hid ((hf.block _ (heap_lt HI2.out) (by omega)).trans HI2.out)
  clear hr hf hc2
  have f0 := fun o => Lib.frozen_of_heap HI3.out o
  have e0 : W3.cell? ⟨W.heap.size, 0, none⟩ = some (.int .i64 0) := by rw [Lib.cell_of_heap HI3.out]; rfl
  have e1 : W3.cell? ⟨W.heap.size, 1, none⟩ = some (.int .i64 0) := by rw [Lib.cell_of_heap HI3.out]; rfl
  have e2 : W3.cell? ⟨W.heap.size, 2, none⟩ = some (.int .i64 0) := by rw [Lib.cell_of_heap HI3.out]; rfl
  have HB0 := Lib.hid HI3.out
  have HKP0 : Kp W.heap.size [] W3 W3 := fun _ _ _ _ _ _ _ => rfl
  have HG0 := Lib.hid HF3.out
  have HRR0 := Lib.hid HR3.out
  have HB1 := Lib.hid (heap_set (j := 0) (.int .i64 x0) HB0.out)
  have HKP1 := HKP0.trans (Kp.set (o := 0) HB0.out (by decide) (.int .i64 x0))
  have HG1 := Lib.hid (HG0.out.set (p := ⟨W.heap.size, 0, none⟩) (.inr (Nat.le_refl _)) (.int .i64 x0))
  have HRR1 := Lib.hid (HRR0.out.set (o := 0) hblt (.int .i64 x0))
  have HB2 := Lib.hid (heap_set (j := 1) (.int .i64 x1) HB1.out)
  have HKP2 := HKP1.trans (Kp.set (o := 1) HB1.out (by decide) (.int .i64 x1))
  have HG2 := Lib.hid (HG1.out.set (p := ⟨W.heap.size, 1, none⟩) (.inr (Nat.le_refl _)) (.int .i64 x1))
  have HRR2 := Lib.hid (HRR1.out.set (o := 1) hblt (.int .i64 x1))
  have HB3 := Lib.hid (heap_set (j := 2) (.int .i64 x2) HB2.out)
  have HKP3 := HKP2.trans (Kp.set (o := 2) HB2.out (by decide) (.int .i64 x2))
  have HG3 := Lib.hid (HG2.out.set (p := ⟨W.heap.size, 2, none⟩) (.inr (Nat.le_refl _)) (.int .i64 x2))
  have HRR3 := Lib.hid (HRR2.out.set (o := 2) hblt (.int .i64 x2))
  have HBN := Lib.hid (show (((W3.setCell ⟨W.heap.size, 0, none⟩ (.int .i64 x0)).setCell ⟨W.heap.size, 1, none⟩ (.int .i64 x1)).setCell ⟨W.heap.size, 2, none⟩ (.int .i64 x2)).heap[W.heap.size]? = some (.cells #[.int .i64 x0, .int .i64 x1, .int .i64 x2] 78 (0, 0)) from HB3.out)
  clear HKP0 HKP1 HKP2 HKP3
  go_wp2_with fail
  generalize (((W3.setCell ⟨W.heap.size, 0, none⟩ (.int .i64 x0)).setCell ⟨W.heap.size, 1, none⟩ (.int .i64 x1)).setCell ⟨W.heap.size, 2, none⟩ (.int .i64 x2)) = W9 at *
  have b0 : W9.cell? ⟨W.heap.size, 0, none⟩ = some (.int .i64 x0) := by rw [Lib.cell_of_heap HBN.out]; rfl
  have b1 : W9.cell? ⟨W.heap.size, 1, none⟩ = some (.int .i64 x1) := by rw [Lib.cell_of_heap HBN.out]; rfl
  have b2 : W9.cell? ⟨W.heap.size, 2, none⟩ = some (.int .i64 x2) := by rw [Lib.cell_of_heap HBN.out]; rfl
  refine bodyPost_ret (by simp [results, Tryz.results89, go_sem, b0, b1, b2]; try rfl) rfl ?_
  have hR : R = (⟨x0, x1, x2⟩, t3) := by
    rw [← HRES.out]
    have e0 := HX0.out
    show ((⟨(cNum.r B s).1, (cNum.r B (cNum.r B s).2).1, (cNum.r B (cNum.r B (cNum.r B s).2).2).1⟩ : JobD), (cNum.r B (cNum.r B (cNum.r B s).2).2).2) = _
    rw [HX0.out, HX1.out, HX2.out]
  rw [hR]
  exact ⟨_, rfl, job_is.2 rfl, HRR3.out, HG3.out⟩
theorem sub2_desc : ∀ t, t ∈ ([3] : List TypeId) → t ∈ ([3, 9, 58] : List TypeId) := by decide
theorem sub3_desc : ∀ t, t ∈ ([3] : List TypeId) → t ∈ ([3, 9, 58] : List TypeId) := by decide
theorem sub4_desc : ∀ t, t ∈ ([9] : List TypeId) → t ∈ ([3, 9, 58] : List TypeId) := by decide
theorem sub5_desc : ∀ t, t ∈ ([58, 3] : List TypeId) → t ∈ ([3, 9, 58] : List TypeId) := by decide

set_option maxHeartbeats 2000000 in
set_option maxRecDepth 100000 in
theorem rd_desc : Rd 82 mkA shDesc cDesc [3, 9, 58] := by
  intro B b s W h
  have hblt := h.lt
  obtain ⟨R, hR⟩ : ∃ R, cDesc.r B s = R := ⟨_, rfl⟩
  rw [hR]
  have HRES := Lib.hid hR
  have HI0 := Lib.hid (show (W.alloc (.cells #[.int .i64 0, .string ⟨#[]⟩, .slice none 0 0, .slice none 0 0, .slice none 0 0, .slice none 0 0] 56)).heap[W.heap.size]? = some (.cells #[.int .i64 0, .string ⟨#[]⟩, .slice none 0 0, .slice none 0 0, .slice none 0 0, .slice none 0 0] 56 (0, 0)) from heap_alloc_new W _)
  have HF0 := Lib.hid ((KFr.refl b W).alloc (.cells #[.int .i64 0, .string ⟨#[]⟩, .slice none 0 0, .slice none 0 0, .slice none 0 0, .slice none 0 0] 56))
  have HR0 := Lib.hid (h.alloc (.cells #[.int .i64 0, .string ⟨#[]⟩, .slice none 0 0, .slice none 0 0, .slice none 0 0, .slice none 0 0] 56))
  clear h hR
  go_enter Tryz.func82, Tryz.ntmps82
  have hc0 := rd_num B b s (W.alloc (.cells #[.int .i64 0, .string ⟨#[]⟩, .slice none 0 0, .slice none 0 0, .slice none 0 0, .slice none 0 0] 56)) HR0.out
  obtain ⟨⟨x0, t1⟩, hx0⟩ : ∃ r, cNum.r B s = r := ⟨_, rfl⟩
  rw [hx0] at hc0
  simp only at hc0
  have HX0 := Lib.hid hx0
  clear hx0
  go_wp2_with (go_at_call 90; refine hc0.mono ?_)
  rintro e W1 ⟨vs, rfl, hI, hr, hf⟩
  obtain rfl : vs = [.int .i64 x0] := hI
  simp only [mk1, List.headD_cons]
  have HR1 := Lib.hid hr
  have HK1 := Lib.hid hf
  have HF1 := Lib.hid (HF0.out.trans hf)
  have HI1 := Lib.hid ((hf.block _ (heap_lt HI0.out) (by omega)).trans HI0.out)
  clear hr hf hc0
  have hc1 := rd_text B b t1 W1 HR1.out
  obtain ⟨⟨x1, t2⟩, hx1⟩ : ∃ r, cText.r B t1 = r := ⟨_, rfl⟩
  rw [hx1] at hc1
  simp only at hc1
  have HX1 := Lib.hid hx1
  clear hx1
  go_wp2_with (go_at_call 44; refine hc1.mono ?_)
  rintro e W2 ⟨vs, rfl, hI, hr, hf⟩
  obtain rfl : vs = [.string x1] := hI
  simp only [mk1, List.headD_cons]
  have HR2 := Lib.hid hr
  have HK2 := Lib.hid hf
  have HF2 := Lib.hid (HF1.out.trans hf)
  have HI2 := Lib.hid ((hf.block _ (heap_lt HI1.out) (by omega)).trans HI1.out)
  clear hr hf hc1
  have hc2 := rd_nums B b t2 W2 HR2.out
  obtain ⟨⟨x2, t3⟩, hx2⟩ : ∃ r, cNums.r B t2 = r := ⟨_, rfl⟩
  rw [hx2] at hc2
  simp only at hc2
  have HX2 := Lib.hid hx2
  clear hx2
  go_wp2_with (go_at_call 85; refine hc2.mono ?_)
  rintro e W3 ⟨vs, rfl, hI, hr, hf⟩
  obtain ⟨a2, l2, c2, rfl, hrow⟩ := slice_is.1 hI
  have HRW2 := Lib.hid hrow
  clear hI hrow
  simp only [mk1, List.headD_cons]
  have HR3 := Lib.hid hr
  have HK3 := Lib.hid hf
  have HF3 := Lib.hid (HF2.out.trans hf)
  have HI3 := Lib.hid ((hf.block _ (heap_lt HI2.out) (by omega)).trans HI2.out)
  clear hr hf hc2
  have hc3 := rd_nums B b t3 W3 HR3.out
  obtain ⟨⟨x3, t4⟩, hx3⟩ : ∃ r, cNums.r B t3 = r := ⟨_, rfl⟩
  rw [hx3] at hc3
  simp only at hc3
  have HX3 := Lib.hid hx3
  clear hx3
  go_wp2_with (go_at_call 85; refine hc3.mono ?_)
  rintro e W4 ⟨vs, rfl, hI, hr, hf⟩
  obtain ⟨a3, l3, c3, rfl, hrow⟩ := slice_is.1 hI
  have HRW3 := Lib.hid hrow
  clear hI hrow
  simp only [mk1, List.headD_cons]
  have HR4 := Lib.hid hr
  have HK4 := Lib.hid hf
  have HF4 := Lib.hid (HF3.out.trans hf)
  have HI4 := Lib.hid ((hf.block _ (heap_lt HI3.out) (by omega)).trans HI3.out)
  clear hr hf hc3
  have hc4 := rd_texts B b t4 W4 HR4.out
  obtain ⟨⟨x4, t5⟩, hx4⟩ : ∃ r, cTexts.r B t4 = r := ⟨_, rfl⟩
  rw [hx4] at hc4
  simp only at hc4
  have HX4 := Lib.hid hx4
  clear hx4
  go_wp2_with (go_at_call 80; refine hc4.mono ?_)
  rintro e W5 ⟨vs, rfl, hI, hr, hf⟩
  obtain ⟨a4, l4, c4, rfl, hrow⟩ := slice_is.1 hI
  have HRW4 := Lib.hid hrow
  clear hI hrow
  simp only [mk1, List.headD_cons]
  have HR5 := Lib.hid hr
  have HK5 := Lib.hid hf
  have HF5 := Lib.hid (HF4.out.trans hf)
  have HI5 := Lib.hid ((hf.block _ (heap_lt HI4.out) (by omega)).trans HI4.out)
  clear hr hf hc4
  have hc5 := severalTables rd_table B b t5 W5 HR5.out
  obtain ⟨⟨x5, t6⟩, hx5⟩ : ∃ r, (cList cTable).r B t5 = r := ⟨_, rfl⟩
  rw [hx5] at hc5
  simp only at hc5
  have HX5 := Lib.hid hx5
  clear hx5
  go_wp2_with (go_at_call 102; refine hc5.mono ?_)
  rintro e W6 ⟨vs, rfl, hI, hr, hf⟩
  obtain ⟨a5, l5, c5, rfl, hrow⟩ := slice_is.1 hI
  have HRW5 := Lib.hid hrow
  clear hI hrow
  simp only [mk1, List.headD_cons]
  have HR6 := Lib.hid hr
  have HK6 := Lib.hid hf
  have HF6 := Lib.hid (HF5.out.trans hf)
  have HI6 := Lib.hid ((hf.block _ (heap_lt HI5.out) (by omega)).trans HI5.out)
  clear hr hf hc5
  have f0 := fun o => Lib.frozen_of_heap HI6.out o
  have e0 : W6.cell? ⟨W.heap.size, 0, none⟩ = some (.int .i64 0) := by rw [Lib.cell_of_heap HI6.out]; rfl
  have e1 : W6.cell? ⟨W.heap.size, 1, none⟩ = some (.string ⟨#[]⟩) := by rw [Lib.cell_of_heap HI6.out]; rfl
  have e2 : W6.cell? ⟨W.heap.size, 2, none⟩ = some (.slice none 0 0) := by rw [Lib.cell_of_heap HI6.out]; rfl
  have e3 : W6.cell? ⟨W.heap.size, 3, none⟩ = some (.slice none 0 0) := by rw [Lib.cell_of_heap HI6.out]; rfl
  have e4 : W6.cell? ⟨W.heap.size, 4, none⟩ = some (.slice none 0 0) := by rw [Lib.cell_of_heap HI6.out]; rfl
  have e5 : W6.cell? ⟨W.heap.size, 5, none⟩ = some (.slice none 0 0) := by rw [Lib.cell_of_heap HI6.out]; rfl
  have HB0 := Lib.hid HI6.out
  have HKP0 : Kp W.heap.size [3, 9, 58] W6 W6 := fun _ _ _ _ _ _ _ => rfl
  have HG0 := Lib.hid HF6.out
  have HRR0 := Lib.hid HR6.out
  have HB1 := Lib.hid (heap_set (j := 0) (.int .i64 x0) HB0.out)
  have HKP1 := HKP0.trans (Kp.set (o := 0) HB0.out (by decide) (.int .i64 x0))
  have HG1 := Lib.hid (HG0.out.set (p := ⟨W.heap.size, 0, none⟩) (.inr (Nat.le_refl _)) (.int .i64 x0))
  have HRR1 := Lib.hid (HRR0.out.set (o := 0) hblt (.int .i64 x0))
  have HB2 := Lib.hid (heap_set (j := 1) (.string x1) HB1.out)
  have HKP2 := HKP1.trans (Kp.set (o := 1) HB1.out (by decide) (.string x1))
  have HG2 := Lib.hid (HG1.out.set (p := ⟨W.heap.size, 1, none⟩) (.inr (Nat.le_refl _)) (.string x1))
  have HRR2 := Lib.hid (HRR1.out.set (o := 1) hblt (.string x1))
  have HB3 := Lib.hid (heap_set (j := 2) (.slice a2 l2 c2) HB2.out)
  have HKP3 := HKP2.trans (Kp.set (o := 2) HB2.out (by decide) (.slice a2 l2 c2))
  have HG3 := Lib.hid (HG2.out.set (p := ⟨W.heap.size, 2, none⟩) (.inr (Nat.le_refl _)) (.slice a2 l2 c2))
  have HRR3 := Lib.hid (HRR2.out.set (o := 2) hblt (.slice a2 l2 c2))
  have HB4 := Lib.hid (heap_set (j := 3) (.slice a3 l3 c3) HB3.out)
  have HKP4 := HKP3.trans (Kp.set (o := 3) HB3.out (by decide) (.slice a3 l3 c3))
  have HG4 := Lib.hid (HG3.out.set (p := ⟨W.heap.size, 3, none⟩) (.inr (Nat.le_refl _)) (.slice a3 l3 c3))
  have HRR4 := Lib.hid (HRR3.out.set (o := 3) hblt (.slice a3 l3 c3))
  have HB5 := Lib.hid (heap_set (j := 4) (.slice a4 l4 c4) HB4.out)
  have HKP5 := HKP4.trans (Kp.set (o := 4) HB4.out (by decide) (.slice a4 l4 c4))
  have HG5 := Lib.hid (HG4.out.set (p := ⟨W.heap.size, 4, none⟩) (.inr (Nat.le_refl _)) (.slice a4 l4 c4))
  have HRR5 := Lib.hid (HRR4.out.set (o := 4) hblt (.slice a4 l4 c4))
  have HB6 := Lib.hid (heap_set (j := 5) (.slice a5 l5 c5) HB5.out)
  have HKP6 := HKP5.trans (Kp.set (o := 5) HB5.out (by decide) (.slice a5 l5 c5))
  have HG6 := Lib.hid (HG5.out.set (p := ⟨W.heap.size, 5, none⟩) (.inr (Nat.le_refl _)) (.slice a5 l5 c5))
  have HRR6 := Lib.hid (HRR5.out.set (o := 5) hblt (.slice a5 l5 c5))
  have HBN := Lib.hid (show ((((((W6.setCell ⟨W.heap.size, 0, none⟩ (.int .i64 x0)).setCell ⟨W.heap.size, 1, none⟩ (.string x1)).setCell ⟨W.heap.size, 2, none⟩ (.slice a2 l2 c2)).setCell ⟨W.heap.size, 3, none⟩ (.slice a3 l3 c3)).setCell ⟨W.heap.size, 4, none⟩ (.slice a4 l4 c4)).setCell ⟨W.heap.size, 5, none⟩ (.slice a5 l5 c5)).heap[W.heap.size]? = some (.cells #[.int .i64 x0, .string x1, .slice a2 l2 c2, .slice a3 l3 c3, .slice a4 l4 c4, .slice a5 l5 c5] 56 (0, 0)) from HB6.out)
  have HRN2 := Lib.hid (row_step HRW2.out (Kp.trans (Kp.trans (Kp.trans (Kp.of HK4.out (Nat.lt_of_lt_of_le hblt HF2.out.size)) (Kp.of HK5.out (Nat.lt_of_lt_of_le hblt HF2.out.size))) (Kp.of HK6.out (Nat.lt_of_lt_of_le hblt HF2.out.size))) (fun k cs t fz hk hc ht => HKP6 k cs t fz (Nat.le_trans HF2.out.size hk) hc (by revert ht; exact sub2_desc t))) HF2.out.size sub2_desc)
  have HRN3 := Lib.hid (row_step HRW3.out (Kp.trans (Kp.trans (Kp.of HK5.out (Nat.lt_of_lt_of_le hblt HF3.out.size)) (Kp.of HK6.out (Nat.lt_of_lt_of_le hblt HF3.out.size))) (fun k cs t fz hk hc ht => HKP6 k cs t fz (Nat.le_trans HF3.out.size hk) hc (by revert ht; exact sub3_desc t))) HF3.out.size sub3_desc)
  have HRN4 := Lib.hid (row_step HRW4.out (Kp.trans (Kp.of HK6.out (Nat.lt_of_lt_of_le hblt HF4.out.size)) (fun k cs t fz hk hc ht => HKP6 k cs t fz (Nat.le_trans HF4.out.size hk) hc (by revert ht; exact sub4_desc t))) HF4.out.size sub4_desc)
  have HRN5 := Lib.hid (row_step HRW5.out (fun k cs t fz hk hc ht => HKP6 k cs t fz (Nat.le_trans HF5.out.size hk) hc (by revert ht; exact sub5_desc t)) HF5.out.size sub5_desc)
  clear HKP0 HKP1 HKP2 HKP3 HKP4 HKP5 HKP6
  go_wp2_with fail
  generalize ((((((W6.setCell ⟨W.heap.size, 0, none⟩ (.int .i64 x0)).setCell ⟨W.heap.size, 1, none⟩ (.string x1)).setCell ⟨W.heap.size, 2, none⟩ (.slice a2 l2 c2)).setCell ⟨W.heap.size, 3, none⟩ (.slice a3 l3 c3)).setCell ⟨W.heap.size, 4, none⟩ (.slice a4 l4 c4)).setCell ⟨W.heap.size, 5, none⟩ (.slice a5 l5 c5)) = W9 at *
  have b0 : W9.cell? ⟨W.heap.size, 0, none⟩ = some (.int .i64 x0) := by rw [Lib.cell_of_heap HBN.out]; rfl
  have b1 : W9.cell? ⟨W.heap.size, 1, none⟩ = some (.string x1) := by rw [Lib.cell_of_heap HBN.out]; rfl
  have b2 : W9.cell? ⟨W.heap.size, 2, none⟩ = some (.slice a2 l2 c2) := by rw [Lib.cell_of_heap HBN.out]; rfl
  have b3 : W9.cell? ⟨W.heap.size, 3, none⟩ = some (.slice a3 l3 c3) := by rw [Lib.cell_of_heap HBN.out]; rfl
  have b4 : W9.cell? ⟨W.heap.size, 4, none⟩ = some (.slice a4 l4 c4) := by rw [Lib.cell_of_heap HBN.out]; rfl
  have b5 : W9.cell? ⟨W.heap.size, 5, none⟩ = some (.slice a5 l5 c5) := by rw [Lib.cell_of_heap HBN.out]; rfl
  refine bodyPost_ret (by simp [results, Tryz.results82, go_sem, b0, b1, b2, b3, b4, b5]; try rfl) rfl ?_
  have hR : R = (⟨x0, x1, x2, x3, x4, x5⟩, t6) := by
    rw [← HRES.out]
    have e0 := HX0.out
    show ((⟨(cNum.r B s).1, (cText.r B (cNum.r B s).2).1, (cNums.r B (cText.r B (cNum.r B s).2).2).1, (cNums.r B (cNums.r B (cText.r B (cNum.r B s).2).2).2).1, (cTexts.r B (cNums.r B (cNums.r B (cText.r B (cNum.r B s).2).2).2).2).1, ((cList cTable).r B (cTexts.r B (cNums.r B (cNums.r B (cText.r B (cNum.r B s).2).2).2).2).2).1⟩ : DescD), ((cList cTable).r B (cTexts.r B (cNums.r B (cNums.r B (cText.r B (cNum.r B s).2).2).2).2).2).2) = _
    rw [HX0.out, HX1.out, HX2.out, HX3.out, HX4.out, HX5.out]
  rw [hR]
  exact ⟨_, rfl, desc_is.2 ⟨_, _, _, _, _, _, _, _, _, _, _, _, rfl, HRN2.out, HRN3.out, HRN4.out, HRN5.out⟩, HRR6.out, HG6.out⟩
theorem sub5_code : ∀ t, t ∈ ([127] : List TypeId) → t ∈ ([127] : List TypeId) := by decide

set_option maxHeartbeats 2000000 in
set_option maxRecDepth 100000 in
theorem rd_code : Rd 84 mkA shCode cCode [127] := by
  intro B b s W h
  have hblt := h.lt
  obtain ⟨R, hR⟩ : ∃ R, cCode.r B s = R := ⟨_, rfl⟩
  rw [hR]
  have HRES := Lib.hid hR
  have HI0 := Lib.hid (show (W.alloc (.cells #[.int .i64 0, .string ⟨#[]⟩, .string ⟨#[]⟩, .bool false, .int .i64 0, .slice none 0 0] 61)).heap[W.heap.size]? = some (.cells #[.int .i64 0, .string ⟨#[]⟩, .string ⟨#[]⟩, .bool false, .int .i64 0, .slice none 0 0] 61 (0, 0)) from heap_alloc_new W _)
  have HF0 := Lib.hid ((KFr.refl b W).alloc (.cells #[.int .i64 0, .string ⟨#[]⟩, .string ⟨#[]⟩, .bool false, .int .i64 0, .slice none 0 0] 61))
  have HR0 := Lib.hid (h.alloc (.cells #[.int .i64 0, .string ⟨#[]⟩, .string ⟨#[]⟩, .bool false, .int .i64 0, .slice none 0 0] 61))
  clear h hR
  go_enter Tryz.func84, Tryz.ntmps84
  have hc0 := rd_num B b s (W.alloc (.cells #[.int .i64 0, .string ⟨#[]⟩, .string ⟨#[]⟩, .bool false, .int .i64 0, .slice none 0 0] 61)) HR0.out
  obtain ⟨⟨x0, t1⟩, hx0⟩ : ∃ r, cNum.r B s = r := ⟨_, rfl⟩
  rw [hx0] at hc0
  simp only at hc0
  have HX0 := Lib.hid hx0
  clear hx0
  go_wp2_with (go_at_call 90; refine hc0.mono ?_)
  rintro e W1 ⟨vs, rfl, hI, hr, hf⟩
  obtain rfl : vs = [.int .i64 x0] := hI
  simp only [mk1, List.headD_cons]
  have HR1 := Lib.hid hr
  have HK1 := Lib.hid hf
  have HF1 := Lib.hid (HF0.out.trans hf)
  have HI1 := Lib.hid ((hf.block _ (heap_lt HI0.out) (by omega)).trans HI0.out)
  clear hr hf hc0
  have hc1 := rd_text B b t1 W1 HR1.out
  obtain ⟨⟨x1, t2⟩, hx1⟩ : ∃ r, cText.r B t1 = r := ⟨_, rfl⟩
  rw [hx1] at hc1
  simp only at hc1
  have HX1 := Lib.hid hx1
  clear hx1
  go_wp2_with (go_at_call 44; refine hc1.mono ?_)
  rintro e W2 ⟨vs, rfl, hI, hr, hf⟩
  obtain rfl : vs = [.string x1] := hI
  simp only [mk1, List.headD_cons]
  have HR2 := Lib.hid hr
  have HK2 := Lib.hid hf
  have HF2 := Lib.hid (HF1.out.trans hf)
  have HI2 := Lib.hid ((hf.block _ (heap_lt HI1.out) (by omega)).trans HI1.out)
  clear hr hf hc1
  have hc2 := rd_text B b t2 W2 HR2.out
  obtain ⟨⟨x2, t3⟩, hx2⟩ : ∃ r, cText.r B t2 = r := ⟨_, rfl⟩
  rw [hx2] at hc2
  simp only at hc2
  have HX2 := Lib.hid hx2
  clear hx2
  go_wp2_with (go_at_call 44; refine hc2.mono ?_)
  rintro e W3 ⟨vs, rfl, hI, hr, hf⟩
  obtain rfl : vs = [.string x2] := hI
  simp only [mk1, List.headD_cons]
  have HR3 := Lib.hid hr
  have HK3 := Lib.hid hf
  have HF3 := Lib.hid (HF2.out.trans hf)
  have HI3 := Lib.hid ((hf.block _ (heap_lt HI2.out) (by omega)).trans HI2.out)
  clear hr hf hc2
  have hc3 := rd_flag B b t3 W3 HR3.out
  obtain ⟨⟨x3, t4⟩, hx3⟩ : ∃ r, cFlag.r B t3 = r := ⟨_, rfl⟩
  rw [hx3] at hc3
  simp only at hc3
  have HX3 := Lib.hid hx3
  clear hx3
  go_wp2_with (go_at_call 104; refine hc3.mono ?_)
  rintro e W4 ⟨vs, rfl, hI, hr, hf⟩
  obtain rfl : vs = [.bool x3] := hI
  simp only [mk1, List.headD_cons]
  have HR4 := Lib.hid hr
  have HK4 := Lib.hid hf
  have HF4 := Lib.hid (HF3.out.trans hf)
  have HI4 := Lib.hid ((hf.block _ (heap_lt HI3.out) (by omega)).trans HI3.out)
  clear hr hf hc3
  have hc4 := rd_num B b t4 W4 HR4.out
  obtain ⟨⟨x4, t5⟩, hx4⟩ : ∃ r, cNum.r B t4 = r := ⟨_, rfl⟩
  rw [hx4] at hc4
  simp only at hc4
  have HX4 := Lib.hid hx4
  clear hx4
  go_wp2_with (go_at_call 90; refine hc4.mono ?_)
  rintro e W5 ⟨vs, rfl, hI, hr, hf⟩
  obtain rfl : vs = [.int .i64 x4] := hI
  simp only [mk1, List.headD_cons]
  have HR5 := Lib.hid hr
  have HK5 := Lib.hid hf
  have HF5 := Lib.hid (HF4.out.trans hf)
  have HI5 := Lib.hid ((hf.block _ (heap_lt HI4.out) (by omega)).trans HI4.out)
  clear hr hf hc4
  have hc5 := severalOps rd_op B b t5 W5 HR5.out
  obtain ⟨⟨x5, t6⟩, hx5⟩ : ∃ r, (cList cOp).r B t5 = r := ⟨_, rfl⟩
  rw [hx5] at hc5
  simp only at hc5
  have HX5 := Lib.hid hx5
  clear hx5
  go_wp2_with (go_at_call 105; refine hc5.mono ?_)
  rintro e W6 ⟨vs, rfl, hI, hr, hf⟩
  obtain ⟨a5, l5, c5, rfl, hrow⟩ := slice_is.1 hI
  have HRW5 := Lib.hid hrow
  clear hI hrow
  simp only [mk1, List.headD_cons]
  have HR6 := Lib.hid hr
  have HK6 := Lib.hid hf
  have HF6 := Lib.hid (HF5.out.trans hf)
  have HI6 := Lib.hid ((hf.block _ (heap_lt HI5.out) (by omega)).trans HI5.out)
  clear hr hf hc5
  have f0 := fun o => Lib.frozen_of_heap HI6.out o
  have e0 : W6.cell? ⟨W.heap.size, 0, none⟩ = some (.int .i64 0) := by rw [Lib.cell_of_heap HI6.out]; rfl
  have e1 : W6.cell? ⟨W.heap.size, 1, none⟩ = some (.string ⟨#[]⟩) := by rw [Lib.cell_of_heap HI6.out]; rfl
  have e2 : W6.cell? ⟨W.heap.size, 2, none⟩ = some (.string ⟨#[]⟩) := by rw [Lib.cell_of_heap HI6.out]; rfl
  have e3 : W6.cell? ⟨W.heap.size, 3, none⟩ = some (.bool false) := by rw [Lib.cell_of_heap HI6.out]; rfl
  have e4 : W6.cell? ⟨W.heap.size, 4, none⟩ = some (.int .i64 0) := by rw [Lib.cell_of_heap HI6.out]; rfl
  have e5 : W6.cell? ⟨W.heap.size, 5, none⟩ = some (.slice none 0 0) := by rw [Lib.cell_of_heap HI6.out]; rfl
  have HB0 := Lib.hid HI6.out
  have HKP0 : Kp W.heap.size [127] W6 W6 := fun _ _ _ _ _ _ _ => rfl
  have HG0 := Lib.hid HF6.out
  have HRR0 := Lib.hid HR6.out
  have HB1 := Lib.hid (heap_set (j := 0) (.int .i64 x0) HB0.out)
  have HKP1 := HKP0.trans (Kp.set (o := 0) HB0.out (by decide) (.int .i64 x0))
  have HG1 := Lib.hid (HG0.out.set (p := ⟨W.heap.size, 0, none⟩) (.inr (Nat.le_refl _)) (.int .i64 x0))
  have HRR1 := Lib.hid (HRR0.out.set (o := 0) hblt (.int .i64 x0))
  have HB2 := Lib.hid (heap_set (j := 1) (.string x1) HB1.out)
  have HKP2 := HKP1.trans (Kp.set (o := 1) HB1.out (by decide) (.string x1))
  have HG2 := Lib.hid (HG1.out.set (p := ⟨W.heap.size, 1, none⟩) (.inr (Nat.le_refl _)) (.string x1))
  have HRR2 := Lib.hid (HRR1.out.set (o := 1) hblt (.string x1))
  have HB3 := Lib.hid (heap_set (j := 2) (.string x2) HB2.out)
  have HKP3 := HKP2.trans (Kp.set (o := 2) HB2.out (by decide) (.string x2))
  have HG3 := Lib.hid (HG2.out.set (p := ⟨W.heap.size, 2, none⟩) (.inr (Nat.le_refl _)) (.string x2))
  have HRR3 := Lib.hid (HRR2.out.set (o := 2) hblt (.string x2))
  have HB4 := Lib.hid (heap_set (j := 3) (.bool x3) HB3.out)
  have HKP4 := HKP3.trans (Kp.set (o := 3) HB3.out (by decide) (.bool x3))
  have HG4 := Lib.hid (HG3.out.set (p := ⟨W.heap.size, 3, none⟩) (.inr (Nat.le_refl _)) (.bool x3))
  have HRR4 := Lib.hid (HRR3.out.set (o := 3) hblt (.bool x3))
  have HB5 := Lib.hid (heap_set (j := 4) (.int .i64 x4) HB4.out)
  have HKP5 := HKP4.trans (Kp.set (o := 4) HB4.out (by decide) (.int .i64 x4))
  have HG5 := Lib.hid (HG4.out.set (p := ⟨W.heap.size, 4, none⟩) (.inr (Nat.le_refl _)) (.int .i64 x4))
  have HRR5 := Lib.hid (HRR4.out.set (o := 4) hblt (.int .i64 x4))
  have HB6 := Lib.hid (heap_set (j := 5) (.slice a5 l5 c5) HB5.out)
  have HKP6 := HKP5.trans (Kp.set (o := 5) HB5.out (by decide) (.slice a5 l5 c5))
  have HG6 := Lib.hid (HG5.out.set (p := ⟨W.heap.size, 5, none⟩) (.inr (Nat.le_refl _)) (.slice a5 l5 c5))
  have HRR6 := Lib.hid (HRR5.out.set (o := 5) hblt (.slice a5 l5 c5))
  have HBN := Lib.hid (show ((((((W6.setCell ⟨W.heap.size, 0, none⟩ (.int .i64 x0)).setCell ⟨W.heap.size, 1, none⟩ (.string x1)).setCell ⟨W.heap.size, 2, none⟩ (.string x2)).setCell ⟨W.heap.size, 3, none⟩ (.bool x3)).setCell ⟨W.heap.size, 4, none⟩ (.int .i64 x4)).setCell ⟨W.heap.size, 5, none⟩ (.slice a5 l5 c5)).heap[W.heap.size]? = some (.cells #[.int .i64 x0, .string x1, .string x2, .bool x3, .int .i64 x4, .slice a5 l5 c5] 61 (0, 0)) from HB6.out)
  have HRN5 := Lib.hid (row_step HRW5.out (fun k cs t fz hk hc ht => HKP6 k cs t fz (Nat.le_trans HF5.out.size hk) hc (by revert ht; exact sub5_code t)) HF5.out.size sub5_code)
  clear HKP0 HKP1 HKP2 HKP3 HKP4 HKP5 HKP6
  go_wp2_with fail
  generalize ((((((W6.setCell ⟨W.heap.size, 0, none⟩ (.int .i64 x0)).setCell ⟨W.heap.size, 1, none⟩ (.string x1)).setCell ⟨W.heap.size, 2, none⟩ (.string x2)).setCell ⟨W.heap.size, 3, none⟩ (.bool x3)).setCell ⟨W.heap.size, 4, none⟩ (.int .i64 x4)).setCell ⟨W.heap.size, 5, none⟩ (.slice a5 l5 c5)) = W9 at *
  have b0 : W9.cell? ⟨W.heap.size, 0, none⟩ = some (.int .i64 x0) := by rw [Lib.cell_of_heap HBN.out]; rfl
  have b1 : W9.cell? ⟨W.heap.size, 1, none⟩ = some (.string x1) := by rw [Lib.cell_of_heap HBN.out]; rfl
  have b2 : W9.cell? ⟨W.heap.size, 2, none⟩ = some (.string x2) := by rw [Lib.cell_of_heap HBN.out]; rfl
  have b3 : W9.cell? ⟨W.heap.size, 3, none⟩ = some (.bool x3) := by rw [Lib.cell_of_heap HBN.out]; rfl
  have b4 : W9.cell? ⟨W.heap.size, 4, none⟩ = some (.int .i64 x4) := by rw [Lib.cell_of_heap HBN.out]; rfl
  have b5 : W9.cell? ⟨W.heap.size, 5, none⟩ = some (.slice a5 l5 c5) := by rw [Lib.cell_of_heap HBN.out]; rfl
  refine bodyPost_ret (by simp [results, Tryz.results84, go_sem, b0, b1, b2, b3, b4, b5]; try rfl) rfl ?_
  have hR : R = (⟨x0, x1, x2, x3, x4, x5⟩, t6) := by
    rw [← HRES.out]
    have e0 := HX0.out
    show ((⟨(cNum.r B s).1, (cText.r B (cNum.r B s).2).1, (cText.r B (cText.r B (cNum.r B s).2).2).1, (cFlag.r B (cText.r B (cText.r B (cNum.r B s).2).2).2).1, (cNum.r B (cFlag.r B (cText.r B (cText.r B (cNum.r B s).2).2).2).2).1, ((cList cOp).r B (cNum.r B (cFlag.r B (cText.r B (cText.r B (cNum.r B s).2).2).2).2).2).1⟩ : CodeD), ((cList cOp).r B (cNum.r B (cFlag.r B (cText.r B (cText.r B (cNum.r B s).2).2).2).2).2).2) = _
    rw [HX0.out, HX1.out, HX2.out, HX3.out, HX4.out, HX5.out]
  rw [hR]
  exact ⟨_, rfl, code_is.2 ⟨_, _, _, rfl, HRN5.out⟩, HRR6.out, HG6.out⟩
end Go.Proofs.YtoaohoeghlidaaaGreatDoor
