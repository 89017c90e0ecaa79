/-
  The program's reader: the parts of an image.
-/
import Derived.Test.YtoaohoeghlidaaaGreatDoorRParts
namespace Go.Proofs.YtoaohoeghlidaaaGreatDoor
open Go.ChangeShapes Go.WideShapes Go.ChangeAt Go.RowKit
theorem pair_r {A C : Type} {a : Codec A} {c : Codec C} {B : List UInt8} {s t u : Rst} {x : A} {y : C} (h1 : a.r B s = (x, t)) (h2 : c.r B t = (y, u)) : (cPair a c).r B s = ((x, y), u) := by
  show (((a.r B s).1, (c.r B (a.r B s).2).1), (c.r B (a.r B s).2).2) = _
  rw [h1]
  simp only
  rw [h2]
theorem iso_r {A C : Type} {a : Codec A} {f : A → C} {g : C → A} {h h'} {B : List UInt8} {s t : Rst} {x : A} (h1 : a.r B s = (x, t)) : (cIso a f g h h').r B s = (f x, t) := by
  show (f (a.r B s).1, (a.r B s).2) = _
  rw [h1]
theorem setRow_same {w : World} {g : Nat} {old : Array Value} {t : TypeId} {fz : Nat × Nat} (cs : Array Value) (h : w.heap[g]? = some (.cells old t fz)) : (w.setRow g cs).heap[g]? = some (.cells cs t fz) := by
  simp [World.setRow, Array.getElem?_modify, h]
theorem setRow_other (w : World) (g : Nat) (cs : Array Value) (k : Nat) (h : k ≠ g) : (w.setRow g cs).heap[k]? = w.heap[k]? := by
  simp [World.setRow, Array.getElem?_modify, Ne.symm h]
theorem size_setRow (w : World) (g : Nat) (cs : Array Value) : (w.setRow g cs).heap.size = w.heap.size := by simp [World.setRow]
theorem Kp.row {lo : Nat} {ts : List TypeId} {W : World} {q : Nat} {cur : Array Value} {t : TypeId} {fz : Nat × Nat} (h : W.heap[q]? = some (.cells cur t fz)) (ht : t ∉ ts) (cs : Array Value) : Kp lo ts W (W.setRow q cs) :=
  fun k _ _ _ _ hc h' => setRow_other _ _ _ _ (fun e => by subst e; rw [h] at hc; cases hc; exact ht h')
theorem KFr.row {b : Nat} {W W1 : World} (h : KFr b W W1) {q : Nat} (hq : W.heap.size ≤ q) (cs : Array Value) : KFr b W (W1.setRow q cs) :=
  ⟨h.os, h.tape, h.output, by rw [size_setRow]; exact h.size, fun k hk hne => (setRow_other _ _ _ _ (by omega)).trans (h.block k hk hne)⟩
theorem RAt.row {W : World} {b : Nat} {B : List UInt8} {s : Rst} (h : RAt W b B s) {q : Nat} (hq : b < q) (cs : Array Value) : RAt (W.setRow q cs) b B s := h.kept (fun k hk => setRow_other _ _ _ _ (by omega))
theorem size29 : (Tryz.prog.info? 29).map (·.size) = some 12 := by kernel_rfl
abbrev imgTs : List TypeId := [53, 9, 56, 3, 58, 61, 127, 90, 78]
theorem sub0_img : ∀ t, t ∈ ([53, 9] : List TypeId) → t ∈ imgTs := by decide
theorem sub1_img : ∀ t, t ∈ ([56, 3, 9, 58] : List TypeId) → t ∈ imgTs := by decide
theorem sub2_img : ∀ t, t ∈ ([61, 127] : List TypeId) → t ∈ imgTs := by decide
theorem sub3_img : ∀ t, t ∈ ([3] : List TypeId) → t ∈ imgTs := by decide
theorem sub5_img : ∀ t, t ∈ ([3] : List TypeId) → t ∈ imgTs := by decide
theorem sub6_img : ∀ t, t ∈ ([3] : List TypeId) → t ∈ imgTs := by decide
theorem sub7_img : ∀ t, t ∈ ([90] : List TypeId) → t ∈ imgTs := by decide
theorem sub8_img : ∀ t, t ∈ ([90] : List TypeId) → t ∈ imgTs := by decide
theorem sub9_img : ∀ t, t ∈ ([78] : List TypeId) → t ∈ imgTs := by decide

set_option maxHeartbeats 8000000 in
set_option maxRecDepth 100000 in
theorem rd_img : Rd 45 mkA shImg cImg imgTs := by
  intro B b s W h
  have hblt := h.lt
  obtain ⟨R, hR⟩ : ∃ R, cImg.r B s = R := ⟨_, rfl⟩
  rw [hR]
  have HRES := Lib.hid hR
  have hJ0 : (W.alloc (.cells #[.slice none 0 0, .slice none 0 0, .slice none 0 0, .slice none 0 0, .string ⟨#[]⟩, .slice none 0 0, .slice none 0 0, .slice none 0 0, .slice none 0 0, .slice none 0 0, .int .i64 0, .int .i64 0] 29)).heap[W.heap.size]? = some (.cells #[.slice none 0 0, .slice none 0 0, .slice none 0 0, .slice none 0 0, .string ⟨#[]⟩, .slice none 0 0, .slice none 0 0, .slice none 0 0, .slice none 0 0, .slice none 0 0, .int .i64 0, .int .i64 0] 29 (0, 0)) := heap_alloc_new W _
  have HJ0 := Lib.hid ((Below.heap_alloc (W.alloc (.cells #[.slice none 0 0, .slice none 0 0, .slice none 0 0, .slice none 0 0, .string ⟨#[]⟩, .slice none 0 0, .slice none 0 0, .slice none 0 0, .slice none 0 0, .slice none 0 0, .int .i64 0, .int .i64 0] 29)) (.cells #[.slice none 0 0, .slice none 0 0, .slice none 0 0, .slice none 0 0, .string ⟨#[]⟩, .slice none 0 0, .slice none 0 0, .slice none 0 0, .slice none 0 0, .slice none 0 0, .int .i64 0, .int .i64 0] 29) _ (heap_lt hJ0)).trans hJ0)
  have HI0 := Lib.hid (show ((W.alloc (.cells #[.slice none 0 0, .slice none 0 0, .slice none 0 0, .slice none 0 0, .string ⟨#[]⟩, .slice none 0 0, .slice none 0 0, .slice none 0 0, .slice none 0 0, .slice none 0 0, .int .i64 0, .int .i64 0] 29)).alloc (.cells #[.slice none 0 0, .slice none 0 0, .slice none 0 0, .slice none 0 0, .string ⟨#[]⟩, .slice none 0 0, .slice none 0 0, .slice none 0 0, .slice none 0 0, .slice none 0 0, .int .i64 0, .int .i64 0] 29)).heap[W.heap.size + 1]? = some (.cells #[.slice none 0 0, .slice none 0 0, .slice none 0 0, .slice none 0 0, .string ⟨#[]⟩, .slice none 0 0, .slice none 0 0, .slice none 0 0, .slice none 0 0, .slice none 0 0, .int .i64 0, .int .i64 0] 29 (0, 0)) by
    have := heap_alloc_new (W.alloc (.cells #[.slice none 0 0, .slice none 0 0, .slice none 0 0, .slice none 0 0, .string ⟨#[]⟩, .slice none 0 0, .slice none 0 0, .slice none 0 0, .slice none 0 0, .slice none 0 0, .int .i64 0, .int .i64 0] 29)) (.cells #[.slice none 0 0, .slice none 0 0, .slice none 0 0, .slice none 0 0, .string ⟨#[]⟩, .slice none 0 0, .slice none 0 0, .slice none 0 0, .slice none 0 0, .slice none 0 0, .int .i64 0, .int .i64 0] 29)
    rw [show (W.alloc (.cells #[.slice none 0 0, .slice none 0 0, .slice none 0 0, .slice none 0 0, .string ⟨#[]⟩, .slice none 0 0, .slice none 0 0, .slice none 0 0, .slice none 0 0, .slice none 0 0, .int .i64 0, .int .i64 0] 29)).heap.size = W.heap.size + 1 by simp] at this
    exact this)
  have HF0 := Lib.hid (((KFr.refl b W).alloc (.cells #[.slice none 0 0, .slice none 0 0, .slice none 0 0, .slice none 0 0, .string ⟨#[]⟩, .slice none 0 0, .slice none 0 0, .slice none 0 0, .slice none 0 0, .slice none 0 0, .int .i64 0, .int .i64 0] 29)).alloc (.cells #[.slice none 0 0, .slice none 0 0, .slice none 0 0, .slice none 0 0, .string ⟨#[]⟩, .slice none 0 0, .slice none 0 0, .slice none 0 0, .slice none 0 0, .slice none 0 0, .int .i64 0, .int .i64 0] 29))
  have HR0 := Lib.hid ((h.alloc (.cells #[.slice none 0 0, .slice none 0 0, .slice none 0 0, .slice none 0 0, .string ⟨#[]⟩, .slice none 0 0, .slice none 0 0, .slice none 0 0, .slice none 0 0, .slice none 0 0, .int .i64 0, .int .i64 0] 29)).alloc (.cells #[.slice none 0 0, .slice none 0 0, .slice none 0 0, .slice none 0 0, .string ⟨#[]⟩, .slice none 0 0, .slice none 0 0, .slice none 0 0, .slice none 0 0, .slice none 0 0, .int .i64 0, .int .i64 0] 29))
  clear h hR hJ0
  go_enter Tryz.func45, Tryz.ntmps45
  have hc := severalFaces rd_texts B b s ((W.alloc (.cells #[.slice none 0 0, .slice none 0 0, .slice none 0 0, .slice none 0 0, .string ⟨#[]⟩, .slice none 0 0, .slice none 0 0, .slice none 0 0, .slice none 0 0, .slice none 0 0, .int .i64 0, .int .i64 0] 29)).alloc (.cells #[.slice none 0 0, .slice none 0 0, .slice none 0 0, .slice none 0 0, .string ⟨#[]⟩, .slice none 0 0, .slice none 0 0, .slice none 0 0, .slice none 0 0, .slice none 0 0, .int .i64 0, .int .i64 0] 29)) HR0.out
  obtain ⟨⟨x0, t1⟩, hx⟩ : ∃ r, (cList cTexts).r B s = r := ⟨_, rfl⟩
  rw [hx] at hc
  simp only at hc
  have HX0 := Lib.hid hx
  clear hx
  go_wp2_with (go_at_call 79; refine hc.mono ?_)
  rintro e V1 ⟨vs, rfl, hI, hr, hf⟩
  obtain ⟨a0, l0, c0, rfl, hrow⟩ := slice_is.1 hI
  clear hI
  simp only [mk1, List.headD_cons]
  have hI := (hf.block _ (heap_lt HI0.out) (by omega)).trans HI0.out
  have hJ := (hf.block _ (heap_lt HJ0.out) (by omega)).trans HJ0.out
  have e0 : V1.cell? ⟨W.heap.size + 1, 0, none⟩ = some (.slice none 0 0) := by rw [Lib.cell_of_heap hI]; rfl
  have f0 := Lib.frozen_of_heap hI 0
  have hst := Kp.set (lo := W.heap.size) (ts := imgTs) (o := 0) hI (by decide) (.slice a0 l0 c0)
  have hkp := (Kp.of (lo := W.heap.size) (ts := imgTs) hf hblt).trans hst
  have HRW0_1 := Lib.hid (row_step hrow (fun k cs t fz hk hc ht => hst k cs t fz (Nat.le_trans HF0.out.size hk) hc (sub0_img t ht)) HF0.out.size sub0_img)
  have HI1 := Lib.hid (show (V1.setCell ⟨W.heap.size + 1, 0, none⟩ (.slice a0 l0 c0)).heap[W.heap.size + 1]? = some (.cells #[.slice a0 l0 c0, .slice none 0 0, .slice none 0 0, .slice none 0 0, .string ⟨#[]⟩, .slice none 0 0, .slice none 0 0, .slice none 0 0, .slice none 0 0, .slice none 0 0, .int .i64 0, .int .i64 0] 29 (0, 0)) from heap_set (j := 0) (.slice a0 l0 c0) hI)
  have HJ1 := Lib.hid ((setCell_rest V1 ⟨W.heap.size + 1, 0, none⟩ (.slice a0 l0 c0) W.heap.size (by simp)).trans hJ)
  have HF1 := Lib.hid ((HF0.out.trans hf).set (p := ⟨W.heap.size + 1, 0, none⟩) (.inr (Nat.le_succ _)) (.slice a0 l0 c0))
  have HR1 := Lib.hid (hr.set (q := W.heap.size + 1) (o := 0) (by omega) (.slice a0 l0 c0))
  clear hc hr hf hI hJ hst hkp HI0 HJ0 HF0 HR0 hrow
  go_wp2_with fail
  generalize V1.setCell ⟨W.heap.size + 1, 0, none⟩ (.slice a0 l0 c0) = U1 at *
  clear e0 f0
  have hc := severalDescs rd_desc B b t1 U1 HR1.out
  obtain ⟨⟨x1, t2⟩, hx⟩ : ∃ r, (cList cDesc).r B t1 = r := ⟨_, rfl⟩
  rw [hx] at hc
  simp only at hc
  have HX1 := Lib.hid hx
  clear hx
  go_wp2_with (go_at_call 81; refine hc.mono ?_)
  rintro e V2 ⟨vs, rfl, hI, hr, hf⟩
  obtain ⟨a1, l1, c1, rfl, hrow⟩ := slice_is.1 hI
  clear hI
  simp only [mk1, List.headD_cons]
  have hI := (hf.block _ (heap_lt HI1.out) (by omega)).trans HI1.out
  have hJ := (hf.block _ (heap_lt HJ1.out) (by omega)).trans HJ1.out
  have e0 : V2.cell? ⟨W.heap.size + 1, 1, none⟩ = some (.slice none 0 0) := by rw [Lib.cell_of_heap hI]; rfl
  have f0 := Lib.frozen_of_heap hI 1
  have hst := Kp.set (lo := W.heap.size) (ts := imgTs) (o := 1) hI (by decide) (.slice a1 l1 c1)
  have hkp := (Kp.of (lo := W.heap.size) (ts := imgTs) hf hblt).trans hst
  have HRW0_2 := Lib.hid (row_step HRW0_1.out hkp (Nat.le_refl _) (fun _ h => h))
  have HRW1_2 := Lib.hid (row_step hrow (fun k cs t fz hk hc ht => hst k cs t fz (Nat.le_trans HF1.out.size hk) hc (sub1_img t ht)) HF1.out.size sub1_img)
  have HI2 := Lib.hid (show (V2.setCell ⟨W.heap.size + 1, 1, none⟩ (.slice a1 l1 c1)).heap[W.heap.size + 1]? = some (.cells #[.slice a0 l0 c0, .slice a1 l1 c1, .slice none 0 0, .slice none 0 0, .string ⟨#[]⟩, .slice none 0 0, .slice none 0 0, .slice none 0 0, .slice none 0 0, .slice none 0 0, .int .i64 0, .int .i64 0] 29 (0, 0)) from heap_set (j := 1) (.slice a1 l1 c1) hI)
  have HJ2 := Lib.hid ((setCell_rest V2 ⟨W.heap.size + 1, 1, none⟩ (.slice a1 l1 c1) W.heap.size (by simp)).trans hJ)
  have HF2 := Lib.hid ((HF1.out.trans hf).set (p := ⟨W.heap.size + 1, 1, none⟩) (.inr (Nat.le_succ _)) (.slice a1 l1 c1))
  have HR2 := Lib.hid (hr.set (q := W.heap.size + 1) (o := 1) (by omega) (.slice a1 l1 c1))
  clear hc hr hf hI hJ hst hkp HI1 HJ1 HF1 HR1 HRW0_1 hrow
  go_wp2_with fail
  generalize V2.setCell ⟨W.heap.size + 1, 1, none⟩ (.slice a1 l1 c1) = U2 at *
  clear e0 f0
  have hc := severalCodes rd_code B b t2 U2 HR2.out
  obtain ⟨⟨x2, t3⟩, hx⟩ : ∃ r, (cList cCode).r B t2 = r := ⟨_, rfl⟩
  rw [hx] at hc
  simp only at hc
  have HX2 := Lib.hid hx
  clear hx
  go_wp2_with (go_at_call 83; refine hc.mono ?_)
  rintro e V3 ⟨vs, rfl, hI, hr, hf⟩
  obtain ⟨a2, l2, c2, rfl, hrow⟩ := slice_is.1 hI
  clear hI
  simp only [mk1, List.headD_cons]
  have hI := (hf.block _ (heap_lt HI2.out) (by omega)).trans HI2.out
  have hJ := (hf.block _ (heap_lt HJ2.out) (by omega)).trans HJ2.out
  have e0 : V3.cell? ⟨W.heap.size + 1, 2, none⟩ = some (.slice none 0 0) := by rw [Lib.cell_of_heap hI]; rfl
  have f0 := Lib.frozen_of_heap hI 2
  have hst := Kp.set (lo := W.heap.size) (ts := imgTs) (o := 2) hI (by decide) (.slice a2 l2 c2)
  have hkp := (Kp.of (lo := W.heap.size) (ts := imgTs) hf hblt).trans hst
  have HRW0_3 := Lib.hid (row_step HRW0_2.out hkp (Nat.le_refl _) (fun _ h => h))
  have HRW1_3 := Lib.hid (row_step HRW1_2.out hkp (Nat.le_refl _) (fun _ h => h))
  have HRW2_3 := Lib.hid (row_step hrow (fun k cs t fz hk hc ht => hst k cs t fz (Nat.le_trans HF2.out.size hk) hc (sub2_img t ht)) HF2.out.size sub2_img)
  have HI3 := Lib.hid (show (V3.setCell ⟨W.heap.size + 1, 2, none⟩ (.slice a2 l2 c2)).heap[W.heap.size + 1]? = some (.cells #[.slice a0 l0 c0, .slice a1 l1 c1, .slice a2 l2 c2, .slice none 0 0, .string ⟨#[]⟩, .slice none 0 0, .slice none 0 0, .slice none 0 0, .slice none 0 0, .slice none 0 0, .int .i64 0, .int .i64 0] 29 (0, 0)) from heap_set (j := 2) (.slice a2 l2 c2) hI)
  have HJ3 := Lib.hid ((setCell_rest V3 ⟨W.heap.size + 1, 2, none⟩ (.slice a2 l2 c2) W.heap.size (by simp)).trans hJ)
  have HF3 := Lib.hid ((HF2.out.trans hf).set (p := ⟨W.heap.size + 1, 2, none⟩) (.inr (Nat.le_succ _)) (.slice a2 l2 c2))
  have HR3 := Lib.hid (hr.set (q := W.heap.size + 1) (o := 2) (by omega) (.slice a2 l2 c2))
  clear hc hr hf hI hJ hst hkp HI2 HJ2 HF2 HR2 HRW0_2 HRW1_2 hrow
  go_wp2_with fail
  generalize V3.setCell ⟨W.heap.size + 1, 2, none⟩ (.slice a2 l2 c2) = U3 at *
  clear e0 f0
  have hc := rd_nums B b t3 U3 HR3.out
  obtain ⟨⟨x3, t4⟩, hx⟩ : ∃ r, cNums.r B t3 = r := ⟨_, rfl⟩
  rw [hx] at hc
  simp only at hc
  have HX3 := Lib.hid hx
  clear hx
  go_wp2_with (go_at_call 85; refine hc.mono ?_)
  rintro e V4 ⟨vs, rfl, hI, hr, hf⟩
  obtain ⟨a3, l3, c3, rfl, hrow⟩ := slice_is.1 hI
  clear hI
  simp only [mk1, List.headD_cons]
  have hI := (hf.block _ (heap_lt HI3.out) (by omega)).trans HI3.out
  have hJ := (hf.block _ (heap_lt HJ3.out) (by omega)).trans HJ3.out
  have e0 : V4.cell? ⟨W.heap.size + 1, 3, none⟩ = some (.slice none 0 0) := by rw [Lib.cell_of_heap hI]; rfl
  have f0 := Lib.frozen_of_heap hI 3
  have hst := Kp.set (lo := W.heap.size) (ts := imgTs) (o := 3) hI (by decide) (.slice a3 l3 c3)
  have hkp := (Kp.of (lo := W.heap.size) (ts := imgTs) hf hblt).trans hst
  have HRW0_4 := Lib.hid (row_step HRW0_3.out hkp (Nat.le_refl _) (fun _ h => h))
  have HRW1_4 := Lib.hid (row_step HRW1_3.out hkp (Nat.le_refl _) (fun _ h => h))
  have HRW2_4 := Lib.hid (row_step HRW2_3.out hkp (Nat.le_refl _) (fun _ h => h))
  have HRW3_4 := Lib.hid (row_step hrow (fun k cs t fz hk hc ht => hst k cs t fz (Nat.le_trans HF3.out.size hk) hc (sub3_img t ht)) HF3.out.size sub3_img)
  have HI4 := Lib.hid (show (V4.setCell ⟨W.heap.size + 1, 3, none⟩ (.slice a3 l3 c3)).heap[W.heap.size + 1]? = some (.cells #[.slice a0 l0 c0, .slice a1 l1 c1, .slice a2 l2 c2, .slice a3 l3 c3, .string ⟨#[]⟩, .slice none 0 0, .slice none 0 0, .slice none 0 0, .slice none 0 0, .slice none 0 0, .int .i64 0, .int .i64 0] 29 (0, 0)) from heap_set (j := 3) (.slice a3 l3 c3) hI)
  have HJ4 := Lib.hid ((setCell_rest V4 ⟨W.heap.size + 1, 3, none⟩ (.slice a3 l3 c3) W.heap.size (by simp)).trans hJ)
  have HF4 := Lib.hid ((HF3.out.trans hf).set (p := ⟨W.heap.size + 1, 3, none⟩) (.inr (Nat.le_succ _)) (.slice a3 l3 c3))
  have HR4 := Lib.hid (hr.set (q := W.heap.size + 1) (o := 3) (by omega) (.slice a3 l3 c3))
  clear hc hr hf hI hJ hst hkp HI3 HJ3 HF3 HR3 HRW0_3 HRW1_3 HRW2_3 hrow
  go_wp2_with fail
  generalize V4.setCell ⟨W.heap.size + 1, 3, none⟩ (.slice a3 l3 c3) = U4 at *
  clear e0 f0
  have hc := rd_text B b t4 U4 HR4.out
  obtain ⟨⟨x4, t5⟩, hx⟩ : ∃ r, cText.r B t4 = r := ⟨_, rfl⟩
  rw [hx] at hc
  simp only at hc
  have HX4 := Lib.hid hx
  clear hx
  go_wp2_with (go_at_call 44; refine hc.mono ?_)
  rintro e V5 ⟨vs, rfl, hI, hr, hf⟩
  obtain rfl : vs = [.string x4] := hI
  simp only [mk1, List.headD_cons]
  have hI := (hf.block _ (heap_lt HI4.out) (by omega)).trans HI4.out
  have hJ := (hf.block _ (heap_lt HJ4.out) (by omega)).trans HJ4.out
  have e0 : V5.cell? ⟨W.heap.size + 1, 4, none⟩ = some (.string ⟨#[]⟩) := by rw [Lib.cell_of_heap hI]; rfl
  have f0 := Lib.frozen_of_heap hI 4
  have hst := Kp.set (lo := W.heap.size) (ts := imgTs) (o := 4) hI (by decide) (.string x4)
  have hkp := (Kp.of (lo := W.heap.size) (ts := imgTs) hf hblt).trans hst
  have HRW0_5 := Lib.hid (row_step HRW0_4.out hkp (Nat.le_refl _) (fun _ h => h))
  have HRW1_5 := Lib.hid (row_step HRW1_4.out hkp (Nat.le_refl _) (fun _ h => h))
  have HRW2_5 := Lib.hid (row_step HRW2_4.out hkp (Nat.le_refl _) (fun _ h => h))
  have HRW3_5 := Lib.hid (row_step HRW3_4.out hkp (Nat.le_refl _) (fun _ h => h))
  have HI5 := Lib.hid (show (V5.setCell ⟨W.heap.size + 1, 4, none⟩ (.string x4)).heap[W.heap.size + 1]? = some (.cells #[.slice a0 l0 c0, .slice a1 l1 c1, .slice a2 l2 c2, .slice a3 l3 c3, .string x4, .slice none 0 0, .slice none 0 0, .slice none 0 0, .slice none 0 0, .slice none 0 0, .int .i64 0, .int .i64 0] 29 (0, 0)) from heap_set (j := 4) (.string x4) hI)
  have HJ5 := Lib.hid ((setCell_rest V5 ⟨W.heap.size + 1, 4, none⟩ (.string x4) W.heap.size (by simp)).trans hJ)
  have HF5 := Lib.hid ((HF4.out.trans hf).set (p := ⟨W.heap.size + 1, 4, none⟩) (.inr (Nat.le_succ _)) (.string x4))
  have HR5 := Lib.hid (hr.set (q := W.heap.size + 1) (o := 4) (by omega) (.string x4))
  clear hc hr hf hI hJ hst hkp HI4 HJ4 HF4 HR4 HRW0_4 HRW1_4 HRW2_4 HRW3_4
  go_wp2_with fail
  generalize V5.setCell ⟨W.heap.size + 1, 4, none⟩ (.string x4) = U5 at *
  clear e0 f0
  have hc := rd_nums B b t5 U5 HR5.out
  obtain ⟨⟨x5, t6⟩, hx⟩ : ∃ r, cNums.r B t5 = r := ⟨_, rfl⟩
  rw [hx] at hc
  simp only at hc
  have HX5 := Lib.hid hx
  clear hx
  go_wp2_with (go_at_call 85; refine hc.mono ?_)
  rintro e V6 ⟨vs, rfl, hI, hr, hf⟩
  obtain ⟨a5, l5, c5, rfl, hrow⟩ := slice_is.1 hI
  clear hI
  simp only [mk1, List.headD_cons]
  have hI := (hf.block _ (heap_lt HI5.out) (by omega)).trans HI5.out
  have hJ := (hf.block _ (heap_lt HJ5.out) (by omega)).trans HJ5.out
  have e0 : V6.cell? ⟨W.heap.size + 1, 5, none⟩ = some (.slice none 0 0) := by rw [Lib.cell_of_heap hI]; rfl
  have f0 := Lib.frozen_of_heap hI 5
  have hst := Kp.set (lo := W.heap.size) (ts := imgTs) (o := 5) hI (by decide) (.slice a5 l5 c5)
  have hkp := (Kp.of (lo := W.heap.size) (ts := imgTs) hf hblt).trans hst
  have HRW0_6 := Lib.hid (row_step HRW0_5.out hkp (Nat.le_refl _) (fun _ h => h))
  have HRW1_6 := Lib.hid (row_step HRW1_5.out hkp (Nat.le_refl _) (fun _ h => h))
  have HRW2_6 := Lib.hid (row_step HRW2_5.out hkp (Nat.le_refl _) (fun _ h => h))
  have HRW3_6 := Lib.hid (row_step HRW3_5.out hkp (Nat.le_refl _) (fun _ h => h))
  have HRW5_6 := Lib.hid (row_step hrow (fun k cs t fz hk hc ht => hst k cs t fz (Nat.le_trans HF5.out.size hk) hc (sub5_img t ht)) HF5.out.size sub5_img)
  have HI6 := Lib.hid (show (V6.setCell ⟨W.heap.size + 1, 5, none⟩ (.slice a5 l5 c5)).heap[W.heap.size + 1]? = some (.cells #[.slice a0 l0 c0, .slice a1 l1 c1, .slice a2 l2 c2, .slice a3 l3 c3, .string x4, .slice a5 l5 c5, .slice none 0 0, .slice none 0 0, .slice none 0 0, .slice none 0 0, .int .i64 0, .int .i64 0] 29 (0, 0)) from heap_set (j := 5) (.slice a5 l5 c5) hI)
  have HJ6 := Lib.hid ((setCell_rest V6 ⟨W.heap.size + 1, 5, none⟩ (.slice a5 l5 c5) W.heap.size (by simp)).trans hJ)
  have HF6 := Lib.hid ((HF5.out.trans hf).set (p := ⟨W.heap.size + 1, 5, none⟩) (.inr (Nat.le_succ _)) (.slice a5 l5 c5))
  have HR6 := Lib.hid (hr.set (q := W.heap.size + 1) (o := 5) (by omega) (.slice a5 l5 c5))
  clear hc hr hf hI hJ hst hkp HI5 HJ5 HF5 HR5 HRW0_5 HRW1_5 HRW2_5 HRW3_5 hrow
  go_wp2_with fail
  generalize V6.setCell ⟨W.heap.size + 1, 5, none⟩ (.slice a5 l5 c5) = U6 at *
  clear e0 f0
  have hc := rd_nums B b t6 U6 HR6.out
  obtain ⟨⟨x6, t7⟩, hx⟩ : ∃ r, cNums.r B t6 = r := ⟨_, rfl⟩
  rw [hx] at hc
  simp only at hc
  have HX6 := Lib.hid hx
  clear hx
  go_wp2_with (go_at_call 85; refine hc.mono ?_)
  rintro e V7 ⟨vs, rfl, hI, hr, hf⟩
  obtain ⟨a6, l6, c6, rfl, hrow⟩ := slice_is.1 hI
  clear hI
  simp only [mk1, List.headD_cons]
  have hI := (hf.block _ (heap_lt HI6.out) (by omega)).trans HI6.out
  have hJ := (hf.block _ (heap_lt HJ6.out) (by omega)).trans HJ6.out
  have e0 : V7.cell? ⟨W.heap.size + 1, 6, none⟩ = some (.slice none 0 0) := by rw [Lib.cell_of_heap hI]; rfl
  have f0 := Lib.frozen_of_heap hI 6
  have hst := Kp.set (lo := W.heap.size) (ts := imgTs) (o := 6) hI (by decide) (.slice a6 l6 c6)
  have hkp := (Kp.of (lo := W.heap.size) (ts := imgTs) hf hblt).trans hst
  have HRW0_7 := Lib.hid (row_step HRW0_6.out hkp (Nat.le_refl _) (fun _ h => h))
  have HRW1_7 := Lib.hid (row_step HRW1_6.out hkp (Nat.le_refl _) (fun _ h => h))
  have HRW2_7 := Lib.hid (row_step HRW2_6.out hkp (Nat.le_refl _) (fun _ h => h))
  have HRW3_7 := Lib.hid (row_step HRW3_6.out hkp (Nat.le_refl _) (fun _ h => h))
  have HRW5_7 := Lib.hid (row_step HRW5_6.out hkp (Nat.le_refl _) (fun _ h => h))
  have HRW6_7 := Lib.hid (row_step hrow (fun k cs t fz hk hc ht => hst k cs t fz (Nat.le_trans HF6.out.size hk) hc (sub6_img t ht)) HF6.out.size sub6_img)
  have HI7 := Lib.hid (show (V7.setCell ⟨W.heap.size + 1, 6, none⟩ (.slice a6 l6 c6)).heap[W.heap.size + 1]? = some (.cells #[.slice a0 l0 c0, .slice a1 l1 c1, .slice a2 l2 c2, .slice a3 l3 c3, .string x4, .slice a5 l5 c5, .slice a6 l6 c6, .slice none 0 0, .slice none 0 0, .slice none 0 0, .int .i64 0, .int .i64 0] 29 (0, 0)) from heap_set (j := 6) (.slice a6 l6 c6) hI)
  have HJ7 := Lib.hid ((setCell_rest V7 ⟨W.heap.size + 1, 6, none⟩ (.slice a6 l6 c6) W.heap.size (by simp)).trans hJ)
  have HF7 := Lib.hid ((HF6.out.trans hf).set (p := ⟨W.heap.size + 1, 6, none⟩) (.inr (Nat.le_succ _)) (.slice a6 l6 c6))
  have HR7 := Lib.hid (hr.set (q := W.heap.size + 1) (o := 6) (by omega) (.slice a6 l6 c6))
  clear hc hr hf hI hJ hst hkp HI6 HJ6 HF6 HR6 HRW0_6 HRW1_6 HRW2_6 HRW3_6 HRW5_6 hrow
  go_wp2_with fail
  generalize V7.setCell ⟨W.heap.size + 1, 6, none⟩ (.slice a6 l6 c6) = U7 at *
  clear e0 f0
  have hc := severalLinks rd_link B b t7 U7 HR7.out
  obtain ⟨⟨x7, t8⟩, hx⟩ : ∃ r, (cList cLink).r B t7 = r := ⟨_, rfl⟩
  rw [hx] at hc
  simp only at hc
  have HX7 := Lib.hid hx
  clear hx
  go_wp2_with (go_at_call 86; refine hc.mono ?_)
  rintro e V8 ⟨vs, rfl, hI, hr, hf⟩
  obtain ⟨a7, l7, c7, rfl, hrow⟩ := slice_is.1 hI
  clear hI
  simp only [mk1, List.headD_cons]
  have hI := (hf.block _ (heap_lt HI7.out) (by omega)).trans HI7.out
  have hJ := (hf.block _ (heap_lt HJ7.out) (by omega)).trans HJ7.out
  have e0 : V8.cell? ⟨W.heap.size + 1, 7, none⟩ = some (.slice none 0 0) := by rw [Lib.cell_of_heap hI]; rfl
  have f0 := Lib.frozen_of_heap hI 7
  have hst := Kp.set (lo := W.heap.size) (ts := imgTs) (o := 7) hI (by decide) (.slice a7 l7 c7)
  have hkp := (Kp.of (lo := W.heap.size) (ts := imgTs) hf hblt).trans hst
  have HRW0_8 := Lib.hid (row_step HRW0_7.out hkp (Nat.le_refl _) (fun _ h => h))
  have HRW1_8 := Lib.hid (row_step HRW1_7.out hkp (Nat.le_refl _) (fun _ h => h))
  have HRW2_8 := Lib.hid (row_step HRW2_7.out hkp (Nat.le_refl _) (fun _ h => h))
  have HRW3_8 := Lib.hid (row_step HRW3_7.out hkp (Nat.le_refl _) (fun _ h => h))
  have HRW5_8 := Lib.hid (row_step HRW5_7.out hkp (Nat.le_refl _) (fun _ h => h))
  have HRW6_8 := Lib.hid (row_step HRW6_7.out hkp (Nat.le_refl _) (fun _ h => h))
  have HRW7_8 := Lib.hid (row_step hrow (fun k cs t fz hk hc ht => hst k cs t fz (Nat.le_trans HF7.out.size hk) hc (sub7_img t ht)) HF7.out.size sub7_img)
  have HI8 := Lib.hid (show (V8.setCell ⟨W.heap.size + 1, 7, none⟩ (.slice a7 l7 c7)).heap[W.heap.size + 1]? = some (.cells #[.slice a0 l0 c0, .slice a1 l1 c1, .slice a2 l2 c2, .slice a3 l3 c3, .string x4, .slice a5 l5 c5, .slice a6 l6 c6, .slice a7 l7 c7, .slice none 0 0, .slice none 0 0, .int .i64 0, .int .i64 0] 29 (0, 0)) from heap_set (j := 7) (.slice a7 l7 c7) hI)
  have HJ8 := Lib.hid ((setCell_rest V8 ⟨W.heap.size + 1, 7, none⟩ (.slice a7 l7 c7) W.heap.size (by simp)).trans hJ)
  have HF8 := Lib.hid ((HF7.out.trans hf).set (p := ⟨W.heap.size + 1, 7, none⟩) (.inr (Nat.le_succ _)) (.slice a7 l7 c7))
  have HR8 := Lib.hid (hr.set (q := W.heap.size + 1) (o := 7) (by omega) (.slice a7 l7 c7))
  clear hc hr hf hI hJ hst hkp HI7 HJ7 HF7 HR7 HRW0_7 HRW1_7 HRW2_7 HRW3_7 HRW5_7 HRW6_7 hrow
  go_wp2_with fail
  generalize V8.setCell ⟨W.heap.size + 1, 7, none⟩ (.slice a7 l7 c7) = U8 at *
  clear e0 f0
  have hc := severalLinks rd_link B b t8 U8 HR8.out
  obtain ⟨⟨x8, t9⟩, hx⟩ : ∃ r, (cList cLink).r B t8 = r := ⟨_, rfl⟩
  rw [hx] at hc
  simp only at hc
  have HX8 := Lib.hid hx
  clear hx
  go_wp2_with (go_at_call 86; refine hc.mono ?_)
  rintro e V9 ⟨vs, rfl, hI, hr, hf⟩
  obtain ⟨a8, l8, c8, rfl, hrow⟩ := slice_is.1 hI
  clear hI
  simp only [mk1, List.headD_cons]
  have hI := (hf.block _ (heap_lt HI8.out) (by omega)).trans HI8.out
  have hJ := (hf.block _ (heap_lt HJ8.out) (by omega)).trans HJ8.out
  have e0 : V9.cell? ⟨W.heap.size + 1, 8, none⟩ = some (.slice none 0 0) := by rw [Lib.cell_of_heap hI]; rfl
  have f0 := Lib.frozen_of_heap hI 8
  have hst := Kp.set (lo := W.heap.size) (ts := imgTs) (o := 8) hI (by decide) (.slice a8 l8 c8)
  have hkp := (Kp.of (lo := W.heap.size) (ts := imgTs) hf hblt).trans hst
  have HRW0_9 := Lib.hid (row_step HRW0_8.out hkp (Nat.le_refl _) (fun _ h => h))
  have HRW1_9 := Lib.hid (row_step HRW1_8.out hkp (Nat.le_refl _) (fun _ h => h))
  have HRW2_9 := Lib.hid (row_step HRW2_8.out hkp (Nat.le_refl _) (fun _ h => h))
  have HRW3_9 := Lib.hid (row_step HRW3_8.out hkp (Nat.le_refl _) (fun _ h => h))
  have HRW5_9 := Lib.hid (row_step HRW5_8.out hkp (Nat.le_refl _) (fun _ h => h))
  have HRW6_9 := Lib.hid (row_step HRW6_8.out hkp (Nat.le_refl _) (fun _ h => h))
  have HRW7_9 := Lib.hid (row_step HRW7_8.out hkp (Nat.le_refl _) (fun _ h => h))
  have HRW8_9 := Lib.hid (row_step hrow (fun k cs t fz hk hc ht => hst k cs t fz (Nat.le_trans HF8.out.size hk) hc (sub8_img t ht)) HF8.out.size sub8_img)
  have HI9 := Lib.hid (show (V9.setCell ⟨W.heap.size + 1, 8, none⟩ (.slice a8 l8 c8)).heap[W.heap.size + 1]? = some (.cells #[.slice a0 l0 c0, .slice a1 l1 c1, .slice a2 l2 c2, .slice a3 l3 c3, .string x4, .slice a5 l5 c5, .slice a6 l6 c6, .slice a7 l7 c7, .slice a8 l8 c8, .slice none 0 0, .int .i64 0, .int .i64 0] 29 (0, 0)) from heap_set (j := 8) (.slice a8 l8 c8) hI)
  have HJ9 := Lib.hid ((setCell_rest V9 ⟨W.heap.size + 1, 8, none⟩ (.slice a8 l8 c8) W.heap.size (by simp)).trans hJ)
  have HF9 := Lib.hid ((HF8.out.trans hf).set (p := ⟨W.heap.size + 1, 8, none⟩) (.inr (Nat.le_succ _)) (.slice a8 l8 c8))
  have HR9 := Lib.hid (hr.set (q := W.heap.size + 1) (o := 8) (by omega) (.slice a8 l8 c8))
  clear hc hr hf hI hJ hst hkp HI8 HJ8 HF8 HR8 HRW0_8 HRW1_8 HRW2_8 HRW3_8 HRW5_8 HRW6_8 HRW7_8 hrow
  go_wp2_with fail
  generalize V9.setCell ⟨W.heap.size + 1, 8, none⟩ (.slice a8 l8 c8) = U9 at *
  clear e0 f0
  have hc := severalJobs rd_job B b t9 U9 HR9.out
  obtain ⟨⟨x9, t10⟩, hx⟩ : ∃ r, (cList cJob).r B t9 = r := ⟨_, rfl⟩
  rw [hx] at hc
  simp only at hc
  have HX9 := Lib.hid hx
  clear hx
  go_wp2_with (go_at_call 88; refine hc.mono ?_)
  rintro e V10 ⟨vs, rfl, hI, hr, hf⟩
  obtain ⟨a9, l9, c9, rfl, hrow⟩ := slice_is.1 hI
  clear hI
  simp only [mk1, List.headD_cons]
  have hI := (hf.block _ (heap_lt HI9.out) (by omega)).trans HI9.out
  have hJ := (hf.block _ (heap_lt HJ9.out) (by omega)).trans HJ9.out
  have e0 : V10.cell? ⟨W.heap.size + 1, 9, none⟩ = some (.slice none 0 0) := by rw [Lib.cell_of_heap hI]; rfl
  have f0 := Lib.frozen_of_heap hI 9
  have hst := Kp.set (lo := W.heap.size) (ts := imgTs) (o := 9) hI (by decide) (.slice a9 l9 c9)
  have hkp := (Kp.of (lo := W.heap.size) (ts := imgTs) hf hblt).trans hst
  have HRW0_10 := Lib.hid (row_step HRW0_9.out hkp (Nat.le_refl _) (fun _ h => h))
  have HRW1_10 := Lib.hid (row_step HRW1_9.out hkp (Nat.le_refl _) (fun _ h => h))
  have HRW2_10 := Lib.hid (row_step HRW2_9.out hkp (Nat.le_refl _) (fun _ h => h))
  have HRW3_10 := Lib.hid (row_step HRW3_9.out hkp (Nat.le_refl _) (fun _ h => h))
  have HRW5_10 := Lib.hid (row_step HRW5_9.out hkp (Nat.le_refl _) (fun _ h => h))
  have HRW6_10 := Lib.hid (row_step HRW6_9.out hkp (Nat.le_refl _) (fun _ h => h))
  have HRW7_10 := Lib.hid (row_step HRW7_9.out hkp (Nat.le_refl _) (fun _ h => h))
  have HRW8_10 := Lib.hid (row_step HRW8_9.out hkp (Nat.le_refl _) (fun _ h => h))
  have HRW9_10 := Lib.hid (row_step hrow (fun k cs t fz hk hc ht => hst k cs t fz (Nat.le_trans HF9.out.size hk) hc (sub9_img t ht)) HF9.out.size sub9_img)
  have HI10 := Lib.hid (show (V10.setCell ⟨W.heap.size + 1, 9, none⟩ (.slice a9 l9 c9)).heap[W.heap.size + 1]? = some (.cells #[.slice a0 l0 c0, .slice a1 l1 c1, .slice a2 l2 c2, .slice a3 l3 c3, .string x4, .slice a5 l5 c5, .slice a6 l6 c6, .slice a7 l7 c7, .slice a8 l8 c8, .slice a9 l9 c9, .int .i64 0, .int .i64 0] 29 (0, 0)) from heap_set (j := 9) (.slice a9 l9 c9) hI)
  have HJ10 := Lib.hid ((setCell_rest V10 ⟨W.heap.size + 1, 9, none⟩ (.slice a9 l9 c9) W.heap.size (by simp)).trans hJ)
  have HF10 := Lib.hid ((HF9.out.trans hf).set (p := ⟨W.heap.size + 1, 9, none⟩) (.inr (Nat.le_succ _)) (.slice a9 l9 c9))
  have HR10 := Lib.hid (hr.set (q := W.heap.size + 1) (o := 9) (by omega) (.slice a9 l9 c9))
  clear hc hr hf hI hJ hst hkp HI9 HJ9 HF9 HR9 HRW0_9 HRW1_9 HRW2_9 HRW3_9 HRW5_9 HRW6_9 HRW7_9 HRW8_9 hrow
  go_wp2_with fail
  generalize V10.setCell ⟨W.heap.size + 1, 9, none⟩ (.slice a9 l9 c9) = U10 at *
  clear e0 f0
  have hc := rd_num B b t10 U10 HR10.out
  obtain ⟨⟨x10, t11⟩, hx⟩ : ∃ r, cNum.r B t10 = r := ⟨_, rfl⟩
  rw [hx] at hc
  simp only at hc
  have HX10 := Lib.hid hx
  clear hx
  go_wp2_with (go_at_call 90; refine hc.mono ?_)
  rintro e V11 ⟨vs, rfl, hI, hr, hf⟩
  obtain rfl : vs = [.int .i64 x10] := hI
  simp only [mk1, List.headD_cons]
  have hI := (hf.block _ (heap_lt HI10.out) (by omega)).trans HI10.out
  have hJ := (hf.block _ (heap_lt HJ10.out) (by omega)).trans HJ10.out
  have e0 : V11.cell? ⟨W.heap.size + 1, 10, none⟩ = some (.int .i64 0) := by rw [Lib.cell_of_heap hI]; rfl
  have f0 := Lib.frozen_of_heap hI 10
  have hst := Kp.set (lo := W.heap.size) (ts := imgTs) (o := 10) hI (by decide) (.int .i64 x10)
  have hkp := (Kp.of (lo := W.heap.size) (ts := imgTs) hf hblt).trans hst
  have HRW0_11 := Lib.hid (row_step HRW0_10.out hkp (Nat.le_refl _) (fun _ h => h))
  have HRW1_11 := Lib.hid (row_step HRW1_10.out hkp (Nat.le_refl _) (fun _ h => h))
  have HRW2_11 := Lib.hid (row_step HRW2_10.out hkp (Nat.le_refl _) (fun _ h => h))
  have HRW3_11 := Lib.hid (row_step HRW3_10.out hkp (Nat.le_refl _) (fun _ h => h))
  have HRW5_11 := Lib.hid (row_step HRW5_10.out hkp (Nat.le_refl _) (fun _ h => h))
  have HRW6_11 := Lib.hid (row_step HRW6_10.out hkp (Nat.le_refl _) (fun _ h => h))
  have HRW7_11 := Lib.hid (row_step HRW7_10.out hkp (Nat.le_refl _) (fun _ h => h))
  have HRW8_11 := Lib.hid (row_step HRW8_10.out hkp (Nat.le_refl _) (fun _ h => h))
  have HRW9_11 := Lib.hid (row_step HRW9_10.out hkp (Nat.le_refl _) (fun _ h => h))
  have HI11 := Lib.hid (show (V11.setCell ⟨W.heap.size + 1, 10, none⟩ (.int .i64 x10)).heap[W.heap.size + 1]? = some (.cells #[.slice a0 l0 c0, .slice a1 l1 c1, .slice a2 l2 c2, .slice a3 l3 c3, .string x4, .slice a5 l5 c5, .slice a6 l6 c6, .slice a7 l7 c7, .slice a8 l8 c8, .slice a9 l9 c9, .int .i64 x10, .int .i64 0] 29 (0, 0)) from heap_set (j := 10) (.int .i64 x10) hI)
  have HJ11 := Lib.hid ((setCell_rest V11 ⟨W.heap.size + 1, 10, none⟩ (.int .i64 x10) W.heap.size (by simp)).trans hJ)
  have HF11 := Lib.hid ((HF10.out.trans hf).set (p := ⟨W.heap.size + 1, 10, none⟩) (.inr (Nat.le_succ _)) (.int .i64 x10))
  have HR11 := Lib.hid (hr.set (q := W.heap.size + 1) (o := 10) (by omega) (.int .i64 x10))
  clear hc hr hf hI hJ hst hkp HI10 HJ10 HF10 HR10 HRW0_10 HRW1_10 HRW2_10 HRW3_10 HRW5_10 HRW6_10 HRW7_10 HRW8_10 HRW9_10
  go_wp2_with fail
  generalize V11.setCell ⟨W.heap.size + 1, 10, none⟩ (.int .i64 x10) = U11 at *
  clear e0 f0
  have hc := rd_num B b t11 U11 HR11.out
  obtain ⟨⟨x11, t12⟩, hx⟩ : ∃ r, cNum.r B t11 = r := ⟨_, rfl⟩
  rw [hx] at hc
  simp only at hc
  have HX11 := Lib.hid hx
  clear hx
  go_wp2_with (go_at_call 90; refine hc.mono ?_)
  rintro e V12 ⟨vs, rfl, hI, hr, hf⟩
  obtain rfl : vs = [.int .i64 x11] := hI
  simp only [mk1, List.headD_cons]
  have hI := (hf.block _ (heap_lt HI11.out) (by omega)).trans HI11.out
  have hJ := (hf.block _ (heap_lt HJ11.out) (by omega)).trans HJ11.out
  have e0 : V12.cell? ⟨W.heap.size + 1, 11, none⟩ = some (.int .i64 0) := by rw [Lib.cell_of_heap hI]; rfl
  have f0 := Lib.frozen_of_heap hI 11
  have hst := Kp.set (lo := W.heap.size) (ts := imgTs) (o := 11) hI (by decide) (.int .i64 x11)
  have hkp := (Kp.of (lo := W.heap.size) (ts := imgTs) hf hblt).trans hst
  have HRW0_12 := Lib.hid (row_step HRW0_11.out hkp (Nat.le_refl _) (fun _ h => h))
  have HRW1_12 := Lib.hid (row_step HRW1_11.out hkp (Nat.le_refl _) (fun _ h => h))
  have HRW2_12 := Lib.hid (row_step HRW2_11.out hkp (Nat.le_refl _) (fun _ h => h))
  have HRW3_12 := Lib.hid (row_step HRW3_11.out hkp (Nat.le_refl _) (fun _ h => h))
  have HRW5_12 := Lib.hid (row_step HRW5_11.out hkp (Nat.le_refl _) (fun _ h => h))
  have HRW6_12 := Lib.hid (row_step HRW6_11.out hkp (Nat.le_refl _) (fun _ h => h))
  have HRW7_12 := Lib.hid (row_step HRW7_11.out hkp (Nat.le_refl _) (fun _ h => h))
  have HRW8_12 := Lib.hid (row_step HRW8_11.out hkp (Nat.le_refl _) (fun _ h => h))
  have HRW9_12 := Lib.hid (row_step HRW9_11.out hkp (Nat.le_refl _) (fun _ h => h))
  have HI12 := Lib.hid (show (V12.setCell ⟨W.heap.size + 1, 11, none⟩ (.int .i64 x11)).heap[W.heap.size + 1]? = some (.cells #[.slice a0 l0 c0, .slice a1 l1 c1, .slice a2 l2 c2, .slice a3 l3 c3, .string x4, .slice a5 l5 c5, .slice a6 l6 c6, .slice a7 l7 c7, .slice a8 l8 c8, .slice a9 l9 c9, .int .i64 x10, .int .i64 x11] 29 (0, 0)) from heap_set (j := 11) (.int .i64 x11) hI)
  have HJ12 := Lib.hid ((setCell_rest V12 ⟨W.heap.size + 1, 11, none⟩ (.int .i64 x11) W.heap.size (by simp)).trans hJ)
  have HF12 := Lib.hid ((HF11.out.trans hf).set (p := ⟨W.heap.size + 1, 11, none⟩) (.inr (Nat.le_succ _)) (.int .i64 x11))
  have HR12 := Lib.hid (hr.set (q := W.heap.size + 1) (o := 11) (by omega) (.int .i64 x11))
  clear hc hr hf hI hJ hst hkp HI11 HJ11 HF11 HR11 HRW0_11 HRW1_11 HRW2_11 HRW3_11 HRW5_11 HRW6_11 HRW7_11 HRW8_11 HRW9_11
  have HBN := Lib.hid (setRow_same #[.slice a0 l0 c0, .slice a1 l1 c1, .slice a2 l2 c2, .slice a3 l3 c3, .string x4, .slice a5 l5 c5, .slice a6 l6 c6, .slice a7 l7 c7, .slice a8 l8 c8, .slice a9 l9 c9, .int .i64 x10, .int .i64 x11] HJ12.out)
  have HGN := Lib.hid (HF12.out.row (Nat.le_refl W.heap.size) #[.slice a0 l0 c0, .slice a1 l1 c1, .slice a2 l2 c2, .slice a3 l3 c3, .string x4, .slice a5 l5 c5, .slice a6 l6 c6, .slice a7 l7 c7, .slice a8 l8 c8, .slice a9 l9 c9, .int .i64 x10, .int .i64 x11])
  have HRRN := Lib.hid (HR12.out.row (q := W.heap.size) hblt #[.slice a0 l0 c0, .slice a1 l1 c1, .slice a2 l2 c2, .slice a3 l3 c3, .string x4, .slice a5 l5 c5, .slice a6 l6 c6, .slice a7 l7 c7, .slice a8 l8 c8, .slice a9 l9 c9, .int .i64 x10, .int .i64 x11])
  have HKN := Lib.hid (Kp.row (lo := W.heap.size) (ts := imgTs) HJ12.out (by decide) #[.slice a0 l0 c0, .slice a1 l1 c1, .slice a2 l2 c2, .slice a3 l3 c3, .string x4, .slice a5 l5 c5, .slice a6 l6 c6, .slice a7 l7 c7, .slice a8 l8 c8, .slice a9 l9 c9, .int .i64 x10, .int .i64 x11])
  have HRN0 := Lib.hid (row_step HRW0_12.out HKN.out (Nat.le_refl _) (fun _ h => h))
  clear HRW0_12
  have HRN1 := Lib.hid (row_step HRW1_12.out HKN.out (Nat.le_refl _) (fun _ h => h))
  clear HRW1_12
  have HRN2 := Lib.hid (row_step HRW2_12.out HKN.out (Nat.le_refl _) (fun _ h => h))
  clear HRW2_12
  have HRN3 := Lib.hid (row_step HRW3_12.out HKN.out (Nat.le_refl _) (fun _ h => h))
  clear HRW3_12
  have HRN5 := Lib.hid (row_step HRW5_12.out HKN.out (Nat.le_refl _) (fun _ h => h))
  clear HRW5_12
  have HRN6 := Lib.hid (row_step HRW6_12.out HKN.out (Nat.le_refl _) (fun _ h => h))
  clear HRW6_12
  have HRN7 := Lib.hid (row_step HRW7_12.out HKN.out (Nat.le_refl _) (fun _ h => h))
  clear HRW7_12
  have HRN8 := Lib.hid (row_step HRW8_12.out HKN.out (Nat.le_refl _) (fun _ h => h))
  clear HRW8_12
  have HRN9 := Lib.hid (row_step HRW9_12.out HKN.out (Nat.le_refl _) (fun _ h => h))
  clear HRW9_12
  have hone : (#[.slice a0 l0 c0, .slice a1 l1 c1, .slice a2 l2 c2, .slice a3 l3 c3, .string x4, .slice a5 l5 c5, .slice a6 l6 c6, .slice a7 l7 c7, .slice a8 l8 c8, .slice a9 l9 c9, .int .i64 x10, .int .i64 x11] : Array Value).all (·.oneCell') = true := by simp [Value.oneCell']
  go_wp2_with (first | (refine wpList_load_row rfl 29 (.tmp 3) rfl (W.heap.size + 1) rfl 29 #[.slice a0 l0 c0, .slice a1 l1 c1, .slice a2 l2 c2, .slice a3 l3 c3, .string x4, .slice a5 l5 c5, .slice a6 l6 c6, .slice a7 l7 c7, .slice a8 l8 c8, .slice a9 l9 c9, .int .i64 x10, .int .i64 x11] (0, 0) _ HI12.out Tryz.underlying29 rfl size29 ?_) | (refine wpList_store_row rfl 29 (.tmp 2) (.tmp 40) rfl W.heap.size #[.slice a0 l0 c0, .slice a1 l1 c1, .slice a2 l2 c2, .slice a3 l3 c3, .string x4, .slice a5 l5 c5, .slice a6 l6 c6, .slice a7 l7 c7, .slice a8 l8 c8, .slice a9 l9 c9, .int .i64 x10, .int .i64 x11] rfl rfl 29 #[.slice none 0 0, .slice none 0 0, .slice none 0 0, .slice none 0 0, .string ⟨#[]⟩, .slice none 0 0, .slice none 0 0, .slice none 0 0, .slice none 0 0, .slice none 0 0, .int .i64 0, .int .i64 0] HJ12.out size29 rfl hone ?_))
  refine bodyPost_ret (by exact results_cell_row (p := 2) (ty := 29) rfl _ _ W.heap.size 29 #[.slice a0 l0 c0, .slice a1 l1 c1, .slice a2 l2 c2, .slice a3 l3 c3, .string x4, .slice a5 l5 c5, .slice a6 l6 c6, .slice a7 l7 c7, .slice a8 l8 c8, .slice a9 l9 c9, .int .i64 x10, .int .i64 x11] (0, 0) _ rfl HBN.out Tryz.underlying29 rfl size29) rfl ?_
  have hR : R = (⟨x0, x1, x2, x3, x4, x5, x6, x7, x8, x9, x10, x11⟩, t12) := by
    rw [← HRES.out]
    exact iso_r (pair_r (pair_r (pair_r (pair_r (pair_r (pair_r (pair_r (pair_r (pair_r (pair_r (pair_r HX0.out HX1.out) HX2.out) HX3.out) HX4.out) HX5.out) HX6.out) HX7.out) HX8.out) HX9.out) HX10.out) HX11.out)
  rw [hR]
  exact ⟨_, rfl, img_is.2 ⟨_, _, _, _, _, _, _, _, _, _, _, _, _, _, _, _, _, _, _, _, _, _, _, _, _, _, _, rfl, HRN0.out, HRN1.out, HRN2.out, HRN3.out, HRN5.out, HRN6.out, HRN7.out, HRN8.out, HRN9.out⟩, HRRN.out, HGN.out⟩
end Go.Proofs.YtoaohoeghlidaaaGreatDoor
