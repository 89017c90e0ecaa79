/-
  The document's reader: classes, codes.
-/
import Derived.Test.YtoaohoeghlidaaaGreatDoorQLink
namespace Go.Proofs.YtoaohoeghlidaaaGreatDoor
open Go.ChangeShapes Go.WideShapes Go.ChangeAt Go.RowKit

theorem grown_keep {W W' : World} {lo sz n k : Nat} {ty t : TypeId} {v : Value} {xs : List Value} {cs : Array Value} {fz : Nat × Nat} (hg : W.grownBy W' v.ownBlock) (ho : W.ownsRow lo ty sz v n xs) (hb : W.heap[k]? = some (.cells cs t fz)) (ht : t ≠ ty) : W'.heap[k]? = some (.cells cs t fz) := by
  refine (hg.block k (heap_lt hb) (fun e => ?_)).trans hb
  obtain ⟨_, _, cs', fz', h2⟩ := own_type ho e.symm
  rw [hb] at h2
  cases h2
  exact ht rfl
theorem box_past {V : World} {k : Nat} {O : Obj} (h : V.heap[k]? = some O) (cs cs' : Array Value) (t : TypeId) : ((V.alloc (.cells cs t)).setRow V.heap.size cs').heap[k]? = some O :=
  (setRow_other _ _ _ _ (by have := heap_lt h; omega)).trans ((Below.heap_alloc _ _ _ (heap_lt h)).trans h)
theorem QAt.row {W : World} {b : Nat} {B : List UInt8} {s : Rst} (h : QAt W b B s) {q : Nat} (hq : b < q) (cs : Array Value) : QAt (W.setRow q cs) b B s := h.kept (fun k hk => setRow_other _ _ _ _ (by omega))
theorem size58 : (Tryz.prog.info? 58).map (·.size) = some 2 := by kernel_rfl
theorem size127 : (Tryz.prog.info? 127).map (·.size) = some 3 := by kernel_rfl
theorem size56 : (Tryz.prog.info? 56).map (·.size) = some 6 := by kernel_rfl
theorem size61 : (Tryz.prog.info? 61).map (·.size) = some 6 := by kernel_rfl

set_option maxHeartbeats 8000000 in
set_option maxRecDepth 100000 in
theorem qd_desc : Qd 49 mkA shDesc dDesc [58, 3, 9] := by
  intro B b s W h
  obtain ⟨i00, hi, hz0, hz1, hz2⟩ := info_parts info_Tables
  have hblt := h.lt
  obtain ⟨RT, hRT⟩ : ∃ RT, dDesc.q B s = RT := ⟨_, rfl⟩
  rw [hRT]
  have HRT := Lib.hid hRT
  have HJ0 := Lib.hid (show (W.alloc (.cells #[.int .i64 0, .string ⟨#[]⟩, .slice none 0 0, .slice none 0 0, .slice none 0 0, .slice none 0 0] 56)).heap[W.heap.size]? = some (.cells #[.int .i64 0, .string ⟨#[]⟩, .slice none 0 0, .slice none 0 0, .slice none 0 0, .slice none 0 0] 56 (0, 0)) from heap_alloc_new W _)
  have HF0 := Lib.hid ((KFr.refl b W).alloc (.cells #[.int .i64 0, .string ⟨#[]⟩, .slice none 0 0, .slice none 0 0, .slice none 0 0, .slice none 0 0] 56))
  have HQ0 := Lib.hid (h.alloc (.cells #[.int .i64 0, .string ⟨#[]⟩, .slice none 0 0, .slice none 0 0, .slice none 0 0, .slice none 0 0] 56))
  clear h hRT
  go_enter Tryz.func49, Tryz.ntmps49
  have hc := qd_num B b s (W.alloc (.cells #[.int .i64 0, .string ⟨#[]⟩, .slice none 0 0, .slice none 0 0, .slice none 0 0, .slice none 0 0] 56)) HQ0.out
  obtain ⟨⟨x0, t1⟩, hx⟩ : ∃ r, dNum.q B s = r := ⟨_, rfl⟩
  rw [hx] at hc
  simp only at hc
  have HX0 := Lib.hid hx
  clear hx
  go_wp2_with (go_at_call 53; refine hc.mono ?_)
  rintro e P1 ⟨vs, rfl, hI, hr, hf⟩
  obtain rfl : vs = [.int .i64 x0] := hI
  simp only [mk1, List.headD_cons]
  have hj := (hf.block _ (heap_lt HJ0.out) (by omega)).trans HJ0.out
  have hbp := hr.lt
  have HQ1 := Lib.hid (hr.box #[.int .i64 0, .string ⟨#[]⟩, .slice none 0 0, .slice none 0 0, .slice none 0 0, .slice none 0 0] #[.int .i64 x0, .string ⟨#[]⟩, .slice none 0 0, .slice none 0 0, .slice none 0 0, .slice none 0 0] 56)
  have HF1 := Lib.hid ((HF0.out.trans hf).box #[.int .i64 0, .string ⟨#[]⟩, .slice none 0 0, .slice none 0 0, .slice none 0 0, .slice none 0 0] #[.int .i64 x0, .string ⟨#[]⟩, .slice none 0 0, .slice none 0 0, .slice none 0 0, .slice none 0 0] 56)
  have HD1 := Lib.hid (box_is P1 #[.int .i64 0, .string ⟨#[]⟩, .slice none 0 0, .slice none 0 0, .slice none 0 0, .slice none 0 0] #[.int .i64 x0, .string ⟨#[]⟩, .slice none 0 0, .slice none 0 0, .slice none 0 0, .slice none 0 0] 56)
  have HJ1 := Lib.hid (box_past hj #[.int .i64 0, .string ⟨#[]⟩, .slice none 0 0, .slice none 0 0, .slice none 0 0, .slice none 0 0] #[.int .i64 x0, .string ⟨#[]⟩, .slice none 0 0, .slice none 0 0, .slice none 0 0, .slice none 0 0] 56)
  have HZ1 := Lib.hid (heap_alloc_new P1 (.cells #[.int .i64 0, .string ⟨#[]⟩, .slice none 0 0, .slice none 0 0, .slice none 0 0, .slice none 0 0] 56))
  have hone : (#[.int .i64 x0, .string ⟨#[]⟩, .slice none 0 0, .slice none 0 0, .slice none 0 0, .slice none 0 0] : Array Value).all (·.oneCell') = true := by simp [Value.oneCell']
  have hsp : W.heap.size + 1 ≤ P1.heap.size := by have := hf.size; simpa using this
  have hsq : P1.heap.size < ((P1.alloc (.cells #[.int .i64 0, .string ⟨#[]⟩, .slice none 0 0, .slice none 0 0, .slice none 0 0, .slice none 0 0] 56)).setRow P1.heap.size #[.int .i64 x0, .string ⟨#[]⟩, .slice none 0 0, .slice none 0 0, .slice none 0 0, .slice none 0 0]).heap.size := heap_lt HD1.out
  clear hc hr hf hj HJ0 HF0 HQ0
  go_wp2_with (refine wpList_store_row rfl 56 (.tmp 3) (.tmp 9) rfl P1.heap.size #[.int .i64 x0, .string ⟨#[]⟩, .slice none 0 0, .slice none 0 0, .slice none 0 0, .slice none 0 0] rfl rfl 56 #[.int .i64 0, .string ⟨#[]⟩, .slice none 0 0, .slice none 0 0, .slice none 0 0, .slice none 0 0] HZ1.out size56 rfl hone ?_)
  generalize (P1.alloc (.cells #[.int .i64 0, .string ⟨#[]⟩, .slice none 0 0, .slice none 0 0, .slice none 0 0, .slice none 0 0] 56)).setRow P1.heap.size #[.int .i64 x0, .string ⟨#[]⟩, .slice none 0 0, .slice none 0 0, .slice none 0 0, .slice none 0 0] = S1 at *
  clear HZ1 hone
  have hc := qd_text B b t1 S1 HQ1.out
  obtain ⟨⟨x1, t2⟩, hx⟩ : ∃ r, dText.q B t1 = r := ⟨_, rfl⟩
  rw [hx] at hc
  simp only at hc
  have HX1 := Lib.hid hx
  clear hx
  go_wp2_with (go_at_call 46; refine hc.mono ?_)
  rintro e P2 ⟨vs, rfl, hI, hr, hf⟩
  obtain rfl : vs = [.string x1] := hI
  simp only [mk1, List.headD_cons]
  have hj := (hf.block _ (heap_lt HJ1.out) (by omega)).trans HJ1.out
  have hd := (hf.block _ (heap_lt HD1.out) (by omega)).trans HD1.out
  have e0 : P2.cell? ⟨P1.heap.size, 1, none⟩ = some (.string ⟨#[]⟩) := by rw [Lib.cell_of_heap hd]; rfl
  have f0 := Lib.frozen_of_heap hd 1
  have HD2 := Lib.hid (show (P2.setCell ⟨P1.heap.size, 1, none⟩ (.string x1)).heap[P1.heap.size]? = some (.cells #[.int .i64 x0, .string x1, .slice none 0 0, .slice none 0 0, .slice none 0 0, .slice none 0 0] 56 (0, 0)) from heap_set (j := 1) (.string x1) hd)
  have HF2 := Lib.hid ((HF1.out.trans hf).set (p := ⟨P1.heap.size, 1, none⟩) (.inr (by show _ ≤ P1.heap.size; omega)) (.string x1))
  have HQ2 := Lib.hid (hr.set (q := P1.heap.size) (o := 1) (by omega) (.string x1))
  have HJ2 := Lib.hid ((setCell_rest P2 ⟨P1.heap.size, 1, none⟩ (.string x1) W.heap.size (by simp; omega)).trans hj)
  clear hc hr hf hd hj HD1 HF1 HQ1 HJ1 
  go_wp2_with fail
  generalize P2.setCell ⟨P1.heap.size, 1, none⟩ (.string x1) = S2 at *
  clear e0 f0
  have hc := qd_nums B b t2 S2 HQ2.out
  obtain ⟨⟨x2, t3⟩, hx⟩ : ∃ r, (dList dNum).q B t2 = r := ⟨_, rfl⟩
  rw [hx] at hc
  simp only at hc
  have HX2 := Lib.hid hx
  clear hx
  go_wp2_with (go_at_call 51; refine hc.mono ?_)
  rintro e P3 ⟨vs, rfl, hI, hr, hf⟩
  obtain ⟨a2, l2, c2, rfl, hrow⟩ := slice_is.1 hI
  clear hI
  simp only [mk1, List.headD_cons]
  have hj := (hf.block _ (heap_lt HJ2.out) (by omega)).trans HJ2.out
  have hd := (hf.block _ (heap_lt HD2.out) (by omega)).trans HD2.out
  have e0 : P3.cell? ⟨P1.heap.size, 2, none⟩ = some (.slice none 0 0) := by rw [Lib.cell_of_heap hd]; rfl
  have f0 := Lib.frozen_of_heap hd 2
  have HD3 := Lib.hid (show (P3.setCell ⟨P1.heap.size, 2, none⟩ (.slice a2 l2 c2)).heap[P1.heap.size]? = some (.cells #[.int .i64 x0, .string x1, .slice a2 l2 c2, .slice none 0 0, .slice none 0 0, .slice none 0 0] 56 (0, 0)) from heap_set (j := 2) (.slice a2 l2 c2) hd)
  have HF3 := Lib.hid ((HF2.out.trans hf).set (p := ⟨P1.heap.size, 2, none⟩) (.inr (by show _ ≤ P1.heap.size; omega)) (.slice a2 l2 c2))
  have HQ3 := Lib.hid (hr.set (q := P1.heap.size) (o := 2) (by omega) (.slice a2 l2 c2))
  have HJ3 := Lib.hid ((setCell_rest P3 ⟨P1.heap.size, 2, none⟩ (.slice a2 l2 c2) W.heap.size (by simp; omega)).trans hj)
  have HW2_3 := Lib.hid (row_step hrow (Kp.set (o := 2) hd (by decide) (.slice a2 l2 c2)) (show W.heap.size ≤ S2.heap.size by exact Nat.le_trans (by simp) HF2.out.size) (fun _ h => h))
  clear hrow
  clear hc hr hf hd hj HD2 HF2 HQ2 HJ2 
  go_wp2_with fail
  generalize P3.setCell ⟨P1.heap.size, 2, none⟩ (.slice a2 l2 c2) = S3 at *
  clear e0 f0
  have hc := qd_nums B b t3 S3 HQ3.out
  obtain ⟨⟨x3, t4⟩, hx⟩ : ∃ r, (dList dNum).q B t3 = r := ⟨_, rfl⟩
  rw [hx] at hc
  simp only at hc
  have HX3 := Lib.hid hx
  clear hx
  go_wp2_with (go_at_call 51; refine hc.mono ?_)
  rintro e P4 ⟨vs, rfl, hI, hr, hf⟩
  obtain ⟨a3, l3, c3, rfl, hrow⟩ := slice_is.1 hI
  clear hI
  simp only [mk1, List.headD_cons]
  have hj := (hf.block _ (heap_lt HJ3.out) (by omega)).trans HJ3.out
  have hd := (hf.block _ (heap_lt HD3.out) (by omega)).trans HD3.out
  have e0 : P4.cell? ⟨P1.heap.size, 3, none⟩ = some (.slice none 0 0) := by rw [Lib.cell_of_heap hd]; rfl
  have f0 := Lib.frozen_of_heap hd 3
  have HD4 := Lib.hid (show (P4.setCell ⟨P1.heap.size, 3, none⟩ (.slice a3 l3 c3)).heap[P1.heap.size]? = some (.cells #[.int .i64 x0, .string x1, .slice a2 l2 c2, .slice a3 l3 c3, .slice none 0 0, .slice none 0 0] 56 (0, 0)) from heap_set (j := 3) (.slice a3 l3 c3) hd)
  have HF4 := Lib.hid ((HF3.out.trans hf).set (p := ⟨P1.heap.size, 3, none⟩) (.inr (by show _ ≤ P1.heap.size; omega)) (.slice a3 l3 c3))
  have HQ4 := Lib.hid (hr.set (q := P1.heap.size) (o := 3) (by omega) (.slice a3 l3 c3))
  have HJ4 := Lib.hid ((setCell_rest P4 ⟨P1.heap.size, 3, none⟩ (.slice a3 l3 c3) W.heap.size (by simp; omega)).trans hj)
  have hkp : Kp W.heap.size [58, 3, 9] S3 _ := (Kp.of hf hblt).trans (Kp.set (o := 3) hd (by decide) (.slice a3 l3 c3))
  have HW2_4 := Lib.hid (row_step HW2_3.out (hkp.sub (by decide)) (Nat.le_refl _) (fun _ h => h))
  have HW3_4 := Lib.hid (row_step hrow (Kp.set (o := 3) hd (by decide) (.slice a3 l3 c3)) (show W.heap.size ≤ S3.heap.size by exact Nat.le_trans (by simp) HF3.out.size) (fun _ h => h))
  clear hrow
  clear hc hr hf hd hj HD3 HF3 HQ3 HJ3 HW2_3 hkp
  go_wp2_with fail
  generalize P4.setCell ⟨P1.heap.size, 3, none⟩ (.slice a3 l3 c3) = S4 at *
  clear e0 f0
  have hc := qd_texts B b t4 S4 HQ4.out
  obtain ⟨⟨x4, t5⟩, hx⟩ : ∃ r, (dList dText).q B t4 = r := ⟨_, rfl⟩
  rw [hx] at hc
  simp only at hc
  have HX4 := Lib.hid hx
  clear hx
  go_wp2_with (go_at_call 48; refine hc.mono ?_)
  rintro e P5 ⟨vs, rfl, hI, hr, hf⟩
  obtain ⟨a4, l4, c4, rfl, hrow⟩ := slice_is.1 hI
  clear hI
  simp only [mk1, List.headD_cons]
  have hj := (hf.block _ (heap_lt HJ4.out) (by omega)).trans HJ4.out
  have hd := (hf.block _ (heap_lt HD4.out) (by omega)).trans HD4.out
  have e0 : P5.cell? ⟨P1.heap.size, 4, none⟩ = some (.slice none 0 0) := by rw [Lib.cell_of_heap hd]; rfl
  have f0 := Lib.frozen_of_heap hd 4
  have HD5 := Lib.hid (show (P5.setCell ⟨P1.heap.size, 4, none⟩ (.slice a4 l4 c4)).heap[P1.heap.size]? = some (.cells #[.int .i64 x0, .string x1, .slice a2 l2 c2, .slice a3 l3 c3, .slice a4 l4 c4, .slice none 0 0] 56 (0, 0)) from heap_set (j := 4) (.slice a4 l4 c4) hd)
  have HF5 := Lib.hid ((HF4.out.trans hf).set (p := ⟨P1.heap.size, 4, none⟩) (.inr (by show _ ≤ P1.heap.size; omega)) (.slice a4 l4 c4))
  have HQ5 := Lib.hid (hr.set (q := P1.heap.size) (o := 4) (by omega) (.slice a4 l4 c4))
  have HJ5 := Lib.hid ((setCell_rest P5 ⟨P1.heap.size, 4, none⟩ (.slice a4 l4 c4) W.heap.size (by simp; omega)).trans hj)
  have hkp : Kp W.heap.size [58, 3, 9] S4 _ := (Kp.of hf hblt).trans (Kp.set (o := 4) hd (by decide) (.slice a4 l4 c4))
  have HW2_5 := Lib.hid (row_step HW2_4.out (hkp.sub (by decide)) (Nat.le_refl _) (fun _ h => h))
  have HW3_5 := Lib.hid (row_step HW3_4.out (hkp.sub (by decide)) (Nat.le_refl _) (fun _ h => h))
  have HW4_5 := Lib.hid (row_step hrow (Kp.set (o := 4) hd (by decide) (.slice a4 l4 c4)) (show W.heap.size ≤ S4.heap.size by exact Nat.le_trans (by simp) HF4.out.size) (fun _ h => h))
  clear hrow
  clear hc hr hf hd hj HD4 HF4 HQ4 HJ4 HW2_4 HW3_4 hkp
  go_wp2_with fail
  generalize P5.setCell ⟨P1.heap.size, 4, none⟩ (.slice a4 l4 c4) = S5 at *
  clear e0 f0
  have hc := qmany_any B b t5 S5 HQ5.out
  have hcl := rCount_le B 1 t5
  obtain ⟨⟨cnt, t0⟩, hx⟩ : ∃ r, rCount B 1 t5 = r := ⟨_, rfl⟩
  rw [hx] at hc hcl
  simp only at hc hcl
  have HXM := Lib.hid hx
  obtain ⟨R, hres⟩ : ∃ R, qGo (dTable.q B) cnt [] t0 = R := ⟨_, rfl⟩
  have HRL := Lib.hid hres
  clear hx hres
  go_wp2_with (go_at_call 47; refine hc.mono ?_)
  rintro e PM ⟨rfl, hr, hf⟩
  have HQM := Lib.hid hr
  have HFM := Lib.hid (HF5.out.trans hf)
  have HDM := Lib.hid ((hf.block _ (heap_lt HD5.out) (by omega)).trans HD5.out)
  have HJM := Lib.hid ((hf.block _ (heap_lt HJ5.out) (by omega)).trans HJ5.out)
  have HW2_M := Lib.hid (row_step HW2_5.out (Kp.of hf hblt) (Nat.le_refl _) (fun _ h => h))
  have HW3_M := Lib.hid (row_step HW3_5.out (Kp.of hf hblt) (Nat.le_refl _) (fun _ h => h))
  have HW4_M := Lib.hid (row_step HW4_5.out (Kp.of hf hblt) (Nat.le_refl _) (fun _ h => h))
  clear hc hr hf HD5 HF5 HQ5 HJ5 HW2_5 HW3_5 HW4_5
  go_wp2_with fail
  go_loopw [5, 6] (fun i _ wr => ∃ (k : Nat) (acc : List TableD) (t : Rst) (v : Value), k ≤ cnt ∧ i = .int .i64 k ∧ acc.length = k ∧ Lst shTable W.heap.size 58 [3] wr v acc ∧ QAt wr b B t ∧ KFr b W wr ∧ qGo (dTable.q B) (cnt - k) acc t = R ∧ wr.heap[P1.heap.size]? = some (.cells #[.int .i64 x0, .string x1, .slice a2 l2 c2, .slice a3 l3 c3, .slice a4 l4 c4, v] 56 (0, 0)) ∧ wr.heap[W.heap.size]? = some (.cells #[.int .i64 0, .string ⟨#[]⟩, .slice none 0 0, .slice none 0 0, .slice none 0 0, .slice none 0 0] 56 (0, 0)) ∧ Row shInt (SB W.heap.size [3] wr) wr a2 l2 x2 ∧ Row shInt (SB W.heap.size [3] wr) wr a3 l3 x3 ∧ Row shStr (SB W.heap.size [9] wr) wr a4 l4 x4) (fun i _ _ => cnt - (intOf i).toNat)
  case atStart => exact ⟨0, [], t0, .slice none 0 0, Nat.zero_le _, rfl, rfl, Lst.nil, HQM.out, HFM.out, by rw [Nat.sub_zero]; exact HRL.out, HDM.out, HJM.out, HW2_M.out, HW3_M.out, HW4_M.out⟩
  case round =>
    clear HQM HFM HDM HJM HW2_M HW3_M HW4_M
    obtain ⟨k, acc, t, v, hk, rfl, hal, hl, hr, hf, hgo, hd, hj, hw2, hw3, hw4⟩ := hrel
    obtain ⟨a99, n99, cap99, g0, g1, g2, g3, g4, -⟩ := hr.cells
    have HL := Lib.hid hl
    have HR := Lib.hid hr
    have HF := Lib.hid hf
    have HGO := Lib.hid hgo
    have HAL := Lib.hid hal
    have HD := Lib.hid hd
    have HJ := Lib.hid hj
    have HW2 := Lib.hid hw2
    have HW3 := Lib.hid hw3
    have HW4 := Lib.hid hw4
    clear hl hr hf hgo g0 g1 g3 g4 hal hd hj hw2 hw3 hw4
    have hend : (k = cnt ∨ t.wrong = true) → R = (acc, t) := by
      rintro (rfl | hw)
      · have := HGO.out; rw [Nat.sub_self] at this; exact this.symm
      · rw [← HGO.out, qGo_bad hw]
    by_cases hlt : k < cnt
    · have i0 : (k : Int) < (cnt : Int) := by omega
      have hm : cnt - k = (cnt - (k + 1)) + 1 := by omega
      rw [hm] at HGO
      cases hw : t.wrong with
      | true =>
        rw [hw] at g2
        have HE := Lib.hid (hend (.inr hw))
        obtain ⟨a9, q9, rfl⟩ := HL.out.form
        clear hend hw
        have HBN := Lib.hid (setRow_same #[.int .i64 x0, .string x1, .slice a2 l2 c2, .slice a3 l3 c3, .slice a4 l4 c4, .slice a9 acc.length q9] HJ.out)
        have HGN := Lib.hid (HF.out.row (Nat.le_refl W.heap.size) #[.int .i64 x0, .string x1, .slice a2 l2 c2, .slice a3 l3 c3, .slice a4 l4 c4, .slice a9 acc.length q9])
        have HRRN := Lib.hid (HR.out.row (q := W.heap.size) hblt #[.int .i64 x0, .string x1, .slice a2 l2 c2, .slice a3 l3 c3, .slice a4 l4 c4, .slice a9 acc.length q9])
        have hkn : Kp W.heap.size ([58, 3, 9] : List TypeId) wr (wr.setRow W.heap.size #[.int .i64 x0, .string x1, .slice a2 l2 c2, .slice a3 l3 c3, .slice a4 l4 c4, .slice a9 acc.length q9]) := Kp.row HJ.out (by decide) #[.int .i64 x0, .string x1, .slice a2 l2 c2, .slice a3 l3 c3, .slice a4 l4 c4, .slice a9 acc.length q9]
        have HLN := Lib.hid (row_step (HL.out.row rfl) (hkn.sub (by decide)) (Nat.le_refl _) (show ∀ t, t ∈ ([58, 3] : List TypeId) → t ∈ ([58, 3, 9] : List TypeId) by decide))
        have HRN2 := Lib.hid (row_step HW2.out (hkn.sub (by decide)) (Nat.le_refl _) (show ∀ t, t ∈ ([3] : List TypeId) → t ∈ ([58, 3, 9] : List TypeId) by decide))
        have HRN3 := Lib.hid (row_step HW3.out (hkn.sub (by decide)) (Nat.le_refl _) (show ∀ t, t ∈ ([3] : List TypeId) → t ∈ ([58, 3, 9] : List TypeId) by decide))
        have HRN4 := Lib.hid (row_step HW4.out (hkn.sub (by decide)) (Nat.le_refl _) (show ∀ t, t ∈ ([9] : List TypeId) → t ∈ ([58, 3, 9] : List TypeId) by decide))
        have hone : (#[.int .i64 x0, .string x1, .slice a2 l2 c2, .slice a3 l3 c3, .slice a4 l4 c4, .slice a9 acc.length q9] : Array Value).all (·.oneCell') = true := by simp [Value.oneCell']
        clear hkn
        go_wp2_with (first | (refine wpList_load_row rfl 56 (.tmp 3) rfl P1.heap.size rfl 56 #[.int .i64 x0, .string x1, .slice a2 l2 c2, .slice a3 l3 c3, .slice a4 l4 c4, .slice a9 acc.length q9] (0, 0) _ HD.out Tryz.underlying56 rfl size56 ?_) | (refine wpList_store_row rfl 56 (.tmp 2) (.tmp 48) rfl W.heap.size #[.int .i64 x0, .string x1, .slice a2 l2 c2, .slice a3 l3 c3, .slice a4 l4 c4, .slice a9 acc.length q9] rfl rfl 56 #[.int .i64 0, .string ⟨#[]⟩, .slice none 0 0, .slice none 0 0, .slice none 0 0, .slice none 0 0] HJ.out size56 rfl hone ?_))
        refine bodyPost_ret (by exact results_cell_row (p := 2) (ty := 56) rfl _ _ W.heap.size 56 #[.int .i64 x0, .string x1, .slice a2 l2 c2, .slice a3 l3 c3, .slice a4 l4 c4, .slice a9 acc.length q9] (0, 0) _ rfl HBN.out Tryz.underlying56 rfl size56) rfl ?_
        have hR : RT = (⟨x0, x1, x2, x3, x4, acc⟩, t) := by
          rw [← HRT.out]
          exact iso_q (pair_q (pair_q (pair_q (pair_q (pair_q HX0.out HX1.out) HX2.out) HX3.out) HX4.out) (many_q HXM.out (HRL.out.trans HE.out)))
        rw [hR]
        exact ⟨_, rfl, desc_is.2 ⟨_, _, _, _, _, _, _, _, _, _, _, _, rfl, HRN2.out, HRN3.out, HRN4.out, HLN.out⟩, HRRN.out, HGN.out⟩
      | false =>
        rw [hw] at g2
        have HW := Lib.hid hw
        clear hw hend
        have hc := qd_num B b t wr HR.out
        obtain ⟨⟨y0, u1⟩, hx⟩ : ∃ r, dNum.q B t = r := ⟨_, rfl⟩
        rw [hx] at hc
        simp only at hc
        have HY0 := Lib.hid hx
        clear hx
        go_wp2_with (go_at_call 53; refine hc.mono ?_)
        rintro e V1 ⟨vs, rfl, hI, hr, hf⟩
        obtain rfl : vs = [.int .i64 y0] := hI
        simp only [mk1, List.headD_cons]
        have hbq := hr.lt
        have HQ1 := Lib.hid (hr.box #[.int .i64 0, .slice none 0 0] #[.int .i64 y0, .slice none 0 0] 58)
        have HK1 := Lib.hid (hf.box #[.int .i64 0, .slice none 0 0] #[.int .i64 y0, .slice none 0 0] 58)
        have HB1 := Lib.hid (box_is V1 #[.int .i64 0, .slice none 0 0] #[.int .i64 y0, .slice none 0 0] 58)
        have HZ1 := Lib.hid (heap_alloc_new V1 (.cells #[.int .i64 0, .slice none 0 0] 58))
        have hone : (#[.int .i64 y0, .slice none 0 0] : Array Value).all (·.oneCell') = true := by simp [Value.oneCell']
        have hsv := hf.size
        have hsu1 : ((V1.alloc (.cells #[.int .i64 0, .slice none 0 0] 58)).setRow V1.heap.size #[.int .i64 y0, .slice none 0 0]).heap.size = V1.heap.size + 1 := by rw [size_setRow]; simp
        clear hc hr hf
        go_wp2_with (refine wpList_store_row rfl 58 (.tmp 6) (.tmp 38) rfl V1.heap.size #[.int .i64 y0, .slice none 0 0] rfl rfl 58 #[.int .i64 0, .slice none 0 0] HZ1.out size58 rfl hone ?_)
        generalize (V1.alloc (.cells #[.int .i64 0, .slice none 0 0] 58)).setRow V1.heap.size #[.int .i64 y0, .slice none 0 0] = U1 at *
        clear HZ1 hone
        have hc := qd_nums B b u1 U1 HQ1.out
        obtain ⟨⟨y1, u2⟩, hx⟩ : ∃ r, (dList dNum).q B u1 = r := ⟨_, rfl⟩
        rw [hx] at hc
        simp only at hc
        have HY1 := Lib.hid hx
        clear hx
        go_wp2_with (go_at_call 51; refine hc.mono ?_)
        rintro e V2 ⟨vs, rfl, hI, hr, hf⟩
        obtain ⟨eya1, eyl1, eyc1, rfl, hrow⟩ := slice_is.1 hI
        clear hI
        simp only [mk1, List.headD_cons]
        have hb := (hf.block _ (heap_lt HB1.out) (by omega)).trans HB1.out
        have e0 : V2.cell? ⟨V1.heap.size, 1, none⟩ = some (.slice none 0 0) := by rw [Lib.cell_of_heap hb]; rfl
        have f0 := Lib.frozen_of_heap hb 1
        have HB2 := Lib.hid (show (V2.setCell ⟨V1.heap.size, 1, none⟩ (.slice eya1 eyl1 eyc1)).heap[V1.heap.size]? = some (.cells #[.int .i64 y0, .slice eya1 eyl1 eyc1] 58 (0, 0)) from heap_set (j := 1) (.slice eya1 eyl1 eyc1) hb)
        have HK2 := Lib.hid ((HK1.out.trans hf).set (p := ⟨V1.heap.size, 1, none⟩) (.inr hsv) (.slice eya1 eyl1 eyc1))
        have HQ2 := Lib.hid (hr.set (q := V1.heap.size) (o := 1) (by omega) (.slice eya1 eyl1 eyc1))
        have HW1 := Lib.hid (row_step hrow (Kp.set (o := 1) hb (by decide) (.slice eya1 eyl1 eyc1)) (show W.heap.size ≤ U1.heap.size by have := HK1.out.size; have := HF.out.size; omega) (fun _ h => h))
        clear hrow
        clear hc hr hf hb HB1 HK1 HQ1
        have HX := Lib.hid (show dTable.q B t = ((⟨y0, y1⟩ : TableD), u2) from iso_q (pair_q HY0.out HY1.out))
        have hsz := HF.out.size
        have hszu := HK2.out.size
        have hx0 : shTable.Is (SB W.heap.size [3] (V2.setCell ⟨V1.heap.size, 1, none⟩ (.slice eya1 eyl1 eyc1))) (V2.setCell ⟨V1.heap.size, 1, none⟩ (.slice eya1 eyl1 eyc1)) [.int .i64 y0, .slice eya1 eyl1 eyc1] ⟨y0, y1⟩ := table_is.2 ⟨_, _, _, rfl, HW1.out⟩
        obtain ⟨vss, hvl, hown, hIs⟩ := (HL.out.kfr HK2.out hblt).kp (Kp.alloc _ _ _ (.cells [.int .i64 y0, .slice eya1 eyl1 eyc1].toArray 58))
        have HXE := Lib.hid (is_step hx0 (Kp.alloc W.heap.size [3] (V2.setCell ⟨V1.heap.size, 1, none⟩ (.slice eya1 eyl1 eyc1)) (.cells [.int .i64 y0, .slice eya1 eyl1 eyc1].toArray 58)))
        have HVL := Lib.hid hvl
        have HO2 := Lib.hid (HAL.out ▸ hown)
        have HOW := Lib.hid hown
        have HIS := Lib.hid hIs
        clear hown hIs hvl hx0
        have hbd := (HK2.out.block P1.heap.size (heap_lt HD.out) (by omega)).trans HD.out
        have e5 : (V2.setCell ⟨V1.heap.size, 1, none⟩ (.slice eya1 eyl1 eyc1)).cell? ⟨P1.heap.size, 5, none⟩ = some v := by rw [Lib.cell_of_heap hbd]; rfl
        have HBD := Lib.hid hbd
        clear hbd
        go_wp2_with (first | (refine wpList_load_row rfl 58 (.tmp 6) rfl V1.heap.size rfl 58 #[.int .i64 y0, .slice eya1 eyl1 eyc1] (0, 0) _ HB2.out Tryz.underlying58 rfl size58 ?_) | (at_builtin; refine wpList_append_own _ rfl (.tmp 43) (.tmp 45) 54 rfl W.heap.size 58 i00 (.agg #[.int .i64 0, .slice none 0 0]) 2 32 Tryz.underlying54 hi hz0 hz1 hz2 rfl (by decide) _ k vss.flatten rfl HO2.out ⟨V2.heap.size, 0, none⟩ 1 1 [.int .i64 y0, .slice eya1 eyl1 eyc1] rfl rfl ?c1 ?c2 ?c3 ?c4 ?c5 ?_))
        case c1 => rw [show V2.heap.size = (V2.setCell ⟨V1.heap.size, 1, none⟩ (.slice eya1 eyl1 eyc1)).heap.size by simp]; exact lit_cells (V2.setCell ⟨V1.heap.size, 1, none⟩ (.slice eya1 eyl1 eyc1)) [.int .i64 y0, .slice eya1 eyl1 eyc1].toArray 58
        case c2 => intro u hu; simp only [List.mem_cons, List.not_mem_nil, or_false] at hu; rcases hu with rfl | rfl <;> rfl
        case c3 => unfold maxLen; omega
        case c4 => omega
        case c5 => have hq : (V2.setCell ⟨V1.heap.size, 1, none⟩ (.slice eya1 eyl1 eyc1)).heap.size = V2.heap.size := by simp
                   simp; omega
        intro v1 W3 hown1 hgrow1 _
        obtain ⟨q1, q2, rfl⟩ := Joins.ownsRow_form hown1 (by omega)
        have HL3 := Lib.hid (Lst.push HVL.out HOW.out HIS.out HXE.out hgrow1 (by rw [HAL.out]; exact hown1) (by decide))
        have HFA := Lib.hid ((HF.out.trans HK2.out).alloc (.cells [.int .i64 y0, .slice eya1 eyl1 eyc1].toArray 58))
        have HF3 := Lib.hid (HFA.out.grown hgrow1 HO2.out)
        have HR3 := Lib.hid ((HQ2.out.alloc (.cells [.int .i64 y0, .slice eya1 eyl1 eyc1].toArray 58)).grown hblt hgrow1 HO2.out)
        have HA := Lib.hid ((Below.heap_alloc (V2.setCell ⟨V1.heap.size, 1, none⟩ (.slice eya1 eyl1 eyc1)) (.cells [.int .i64 y0, .slice eya1 eyl1 eyc1].toArray 58) _ (heap_lt HBD.out)).trans HBD.out)
        have hd3 := grown_keep hgrow1 HO2.out HA.out (by decide)
        have hj1 := (HK2.out.block W.heap.size (heap_lt HJ.out) (by omega)).trans HJ.out
        have hj2 := (Below.heap_alloc (V2.setCell ⟨V1.heap.size, 1, none⟩ (.slice eya1 eyl1 eyc1)) (.cells [.int .i64 y0, .slice eya1 eyl1 eyc1].toArray 58) _ (heap_lt hj1)).trans hj1
        have hj3 := grown_keep hgrow1 HO2.out hj2 (by decide)
        have e6 : W3.cell? ⟨P1.heap.size, 5, none⟩ = some v := by rw [Lib.cell_of_heap hd3]; rfl
        have f6 := Lib.frozen_of_heap hd3 5
        have HD4 := Lib.hid (show (W3.setCell ⟨P1.heap.size, 5, none⟩ (.slice (some ⟨q1, 0, none⟩) (k + 1) q2)).heap[P1.heap.size]? = some (.cells #[.int .i64 x0, .string x1, .slice a2 l2 c2, .slice a3 l3 c3, .slice a4 l4 c4, .slice (some ⟨q1, 0, none⟩) (k + 1) q2] 56 (0, 0)) from heap_set (j := 5) (.slice (some ⟨q1, 0, none⟩) (k + 1) q2) hd3)
        have HJ4 := Lib.hid ((setCell_rest W3 ⟨P1.heap.size, 5, none⟩ (.slice (some ⟨q1, 0, none⟩) (k + 1) q2) W.heap.size (by simp; omega)).trans hj3)
        have HL4 := Lib.hid (HL3.out.kp (Kp.set (o := 5) hd3 (by decide) (.slice (some ⟨q1, 0, none⟩) (k + 1) q2)) : Lst _ _ _ _ (W3.setCell ⟨P1.heap.size, 5, none⟩ (.slice (some ⟨q1, 0, none⟩) (k + 1) q2)) _ _)
        have HF4 := Lib.hid (HF3.out.set (p := ⟨P1.heap.size, 5, none⟩) (.inr (by show _ ≤ P1.heap.size; omega)) (.slice (some ⟨q1, 0, none⟩) (k + 1) q2))
        have HR4 := Lib.hid (HR3.out.set (q := P1.heap.size) (o := 5) (by omega) (.slice (some ⟨q1, 0, none⟩) (k + 1) q2))
        have hkp : Kp W.heap.size [3, 9] wr (W3.setCell ⟨P1.heap.size, 5, none⟩ (.slice (some ⟨q1, 0, none⟩) (k + 1) q2)) := (((Kp.of HK2.out hblt).trans (Kp.alloc _ _ _ (.cells [.int .i64 y0, .slice eya1 eyl1 eyc1].toArray 58))).trans (Kp.grown hgrow1 HO2.out (by decide))).trans (Kp.set (o := 5) hd3 (by decide) _)
        have HV2 := Lib.hid (row_step HW2.out (hkp.sub (by decide)) (Nat.le_refl _) (fun _ h => h))
        have HV3 := Lib.hid (row_step HW3.out (hkp.sub (by decide)) (Nat.le_refl _) (fun _ h => h))
        have HV4 := Lib.hid (row_step HW4.out (hkp.sub (by decide)) (Nat.le_refl _) (fun _ h => h))
        clear hkp
        clear hown1 hgrow1 hd3 hj1 hj2 hj3 HA HBD e5
        go_wp2_with fail
        refine ⟨⟨k + 1, _, u2, _, by omega, by go_num, by simp [HAL.out], HL4.out, HR4.out, HF4.out, ?_, HD4.out, HJ4.out, HV2.out, HV3.out, HV4.out⟩, by simp [intOf]; omega⟩
        have hg := HGO.out
        rw [qGo_one HW.out, HX.out] at hg
        exact hg
    · obtain rfl : k = cnt := by omega
      have HE := Lib.hid (hend (.inl rfl))
      obtain ⟨a9, q9, rfl⟩ := HL.out.form
      clear hend
      have HBN := Lib.hid (setRow_same #[.int .i64 x0, .string x1, .slice a2 l2 c2, .slice a3 l3 c3, .slice a4 l4 c4, .slice a9 acc.length q9] HJ.out)
      have HGN := Lib.hid (HF.out.row (Nat.le_refl W.heap.size) #[.int .i64 x0, .string x1, .slice a2 l2 c2, .slice a3 l3 c3, .slice a4 l4 c4, .slice a9 acc.length q9])
      have HRRN := Lib.hid (HR.out.row (q := W.heap.size) hblt #[.int .i64 x0, .string x1, .slice a2 l2 c2, .slice a3 l3 c3, .slice a4 l4 c4, .slice a9 acc.length q9])
      have hkn : Kp W.heap.size ([58, 3, 9] : List TypeId) wr (wr.setRow W.heap.size #[.int .i64 x0, .string x1, .slice a2 l2 c2, .slice a3 l3 c3, .slice a4 l4 c4, .slice a9 acc.length q9]) := Kp.row HJ.out (by decide) #[.int .i64 x0, .string x1, .slice a2 l2 c2, .slice a3 l3 c3, .slice a4 l4 c4, .slice a9 acc.length q9]
      have HLN := Lib.hid (row_step (HL.out.row rfl) (hkn.sub (by decide)) (Nat.le_refl _) (show ∀ t, t ∈ ([58, 3] : List TypeId) → t ∈ ([58, 3, 9] : List TypeId) by decide))
      have HRN2 := Lib.hid (row_step HW2.out (hkn.sub (by decide)) (Nat.le_refl _) (show ∀ t, t ∈ ([3] : List TypeId) → t ∈ ([58, 3, 9] : List TypeId) by decide))
      have HRN3 := Lib.hid (row_step HW3.out (hkn.sub (by decide)) (Nat.le_refl _) (show ∀ t, t ∈ ([3] : List TypeId) → t ∈ ([58, 3, 9] : List TypeId) by decide))
      have HRN4 := Lib.hid (row_step HW4.out (hkn.sub (by decide)) (Nat.le_refl _) (show ∀ t, t ∈ ([9] : List TypeId) → t ∈ ([58, 3, 9] : List TypeId) by decide))
      have hone : (#[.int .i64 x0, .string x1, .slice a2 l2 c2, .slice a3 l3 c3, .slice a4 l4 c4, .slice a9 acc.length q9] : Array Value).all (·.oneCell') = true := by simp [Value.oneCell']
      clear hkn
      go_wp2_with (first | (refine wpList_load_row rfl 56 (.tmp 3) rfl P1.heap.size rfl 56 #[.int .i64 x0, .string x1, .slice a2 l2 c2, .slice a3 l3 c3, .slice a4 l4 c4, .slice a9 acc.length q9] (0, 0) _ HD.out Tryz.underlying56 rfl size56 ?_) | (refine wpList_store_row rfl 56 (.tmp 2) (.tmp 48) rfl W.heap.size #[.int .i64 x0, .string x1, .slice a2 l2 c2, .slice a3 l3 c3, .slice a4 l4 c4, .slice a9 acc.length q9] rfl rfl 56 #[.int .i64 0, .string ⟨#[]⟩, .slice none 0 0, .slice none 0 0, .slice none 0 0, .slice none 0 0] HJ.out size56 rfl hone ?_))
      refine bodyPost_ret (by exact results_cell_row (p := 2) (ty := 56) rfl _ _ W.heap.size 56 #[.int .i64 x0, .string x1, .slice a2 l2 c2, .slice a3 l3 c3, .slice a4 l4 c4, .slice a9 acc.length q9] (0, 0) _ rfl HBN.out Tryz.underlying56 rfl size56) rfl ?_
      have hR : RT = (⟨x0, x1, x2, x3, x4, acc⟩, t) := by
        rw [← HRT.out]
        exact iso_q (pair_q (pair_q (pair_q (pair_q (pair_q HX0.out HX1.out) HX2.out) HX3.out) HX4.out) (many_q HXM.out (HRL.out.trans HE.out)))
      rw [hR]
      exact ⟨_, rfl, desc_is.2 ⟨_, _, _, _, _, _, _, _, _, _, _, _, rfl, HRN2.out, HRN3.out, HRN4.out, HLN.out⟩, HRRN.out, HGN.out⟩

set_option maxHeartbeats 8000000 in
set_option maxRecDepth 100000 in
theorem qd_code : Qd 50 mkA shCode dCode [127] := by
  intro B b s W h
  obtain ⟨i00, hi, hz0, hz1, hz2⟩ := info_parts info_Ops
  have hblt := h.lt
  obtain ⟨RT, hRT⟩ : ∃ RT, dCode.q B s = RT := ⟨_, rfl⟩
  rw [hRT]
  have HRT := Lib.hid hRT
  have HJ0 := Lib.hid (show (W.alloc (.cells #[.int .i64 0, .string ⟨#[]⟩, .string ⟨#[]⟩, .bool false, .int .i64 0, .slice none 0 0] 61)).heap[W.heap.size]? = some (.cells #[.int .i64 0, .string ⟨#[]⟩, .string ⟨#[]⟩, .bool false, .int .i64 0, .slice none 0 0] 61 (0, 0)) from heap_alloc_new W _)
  have HF0 := Lib.hid ((KFr.refl b W).alloc (.cells #[.int .i64 0, .string ⟨#[]⟩, .string ⟨#[]⟩, .bool false, .int .i64 0, .slice none 0 0] 61))
  have HQ0 := Lib.hid (h.alloc (.cells #[.int .i64 0, .string ⟨#[]⟩, .string ⟨#[]⟩, .bool false, .int .i64 0, .slice none 0 0] 61))
  clear h hRT
  go_enter Tryz.func50, Tryz.ntmps50
  have hc := qd_num B b s (W.alloc (.cells #[.int .i64 0, .string ⟨#[]⟩, .string ⟨#[]⟩, .bool false, .int .i64 0, .slice none 0 0] 61)) HQ0.out
  obtain ⟨⟨x0, t1⟩, hx⟩ : ∃ r, dNum.q B s = r := ⟨_, rfl⟩
  rw [hx] at hc
  simp only at hc
  have HX0 := Lib.hid hx
  clear hx
  go_wp2_with (go_at_call 53; refine hc.mono ?_)
  rintro e P1 ⟨vs, rfl, hI, hr, hf⟩
  obtain rfl : vs = [.int .i64 x0] := hI
  simp only [mk1, List.headD_cons]
  have hj := (hf.block _ (heap_lt HJ0.out) (by omega)).trans HJ0.out
  have hbp := hr.lt
  have HQ1 := Lib.hid (hr.box #[.int .i64 0, .string ⟨#[]⟩, .string ⟨#[]⟩, .bool false, .int .i64 0, .slice none 0 0] #[.int .i64 x0, .string ⟨#[]⟩, .string ⟨#[]⟩, .bool false, .int .i64 0, .slice none 0 0] 61)
  have HF1 := Lib.hid ((HF0.out.trans hf).box #[.int .i64 0, .string ⟨#[]⟩, .string ⟨#[]⟩, .bool false, .int .i64 0, .slice none 0 0] #[.int .i64 x0, .string ⟨#[]⟩, .string ⟨#[]⟩, .bool false, .int .i64 0, .slice none 0 0] 61)
  have HD1 := Lib.hid (box_is P1 #[.int .i64 0, .string ⟨#[]⟩, .string ⟨#[]⟩, .bool false, .int .i64 0, .slice none 0 0] #[.int .i64 x0, .string ⟨#[]⟩, .string ⟨#[]⟩, .bool false, .int .i64 0, .slice none 0 0] 61)
  have HJ1 := Lib.hid (box_past hj #[.int .i64 0, .string ⟨#[]⟩, .string ⟨#[]⟩, .bool false, .int .i64 0, .slice none 0 0] #[.int .i64 x0, .string ⟨#[]⟩, .string ⟨#[]⟩, .bool false, .int .i64 0, .slice none 0 0] 61)
  have HZ1 := Lib.hid (heap_alloc_new P1 (.cells #[.int .i64 0, .string ⟨#[]⟩, .string ⟨#[]⟩, .bool false, .int .i64 0, .slice none 0 0] 61))
  have hone : (#[.int .i64 x0, .string ⟨#[]⟩, .string ⟨#[]⟩, .bool false, .int .i64 0, .slice none 0 0] : Array Value).all (·.oneCell') = true := by simp [Value.oneCell']
  have hsp : W.heap.size + 1 ≤ P1.heap.size := by have := hf.size; simpa using this
  have hsq : P1.heap.size < ((P1.alloc (.cells #[.int .i64 0, .string ⟨#[]⟩, .string ⟨#[]⟩, .bool false, .int .i64 0, .slice none 0 0] 61)).setRow P1.heap.size #[.int .i64 x0, .string ⟨#[]⟩, .string ⟨#[]⟩, .bool false, .int .i64 0, .slice none 0 0]).heap.size := heap_lt HD1.out
  clear hc hr hf hj HJ0 HF0 HQ0
  go_wp2_with (refine wpList_store_row rfl 61 (.tmp 3) (.tmp 9) rfl P1.heap.size #[.int .i64 x0, .string ⟨#[]⟩, .string ⟨#[]⟩, .bool false, .int .i64 0, .slice none 0 0] rfl rfl 61 #[.int .i64 0, .string ⟨#[]⟩, .string ⟨#[]⟩, .bool false, .int .i64 0, .slice none 0 0] HZ1.out size61 rfl hone ?_)
  generalize (P1.alloc (.cells #[.int .i64 0, .string ⟨#[]⟩, .string ⟨#[]⟩, .bool false, .int .i64 0, .slice none 0 0] 61)).setRow P1.heap.size #[.int .i64 x0, .string ⟨#[]⟩, .string ⟨#[]⟩, .bool false, .int .i64 0, .slice none 0 0] = S1 at *
  clear HZ1 hone
  have hc := qd_text B b t1 S1 HQ1.out
  obtain ⟨⟨x1, t2⟩, hx⟩ : ∃ r, dText.q B t1 = r := ⟨_, rfl⟩
  rw [hx] at hc
  simp only at hc
  have HX1 := Lib.hid hx
  clear hx
  go_wp2_with (go_at_call 46; refine hc.mono ?_)
  rintro e P2 ⟨vs, rfl, hI, hr, hf⟩
  obtain rfl : vs = [.string x1] := hI
  simp only [mk1, List.headD_cons]
  have hj := (hf.block _ (heap_lt HJ1.out) (by omega)).trans HJ1.out
  have hd := (hf.block _ (heap_lt HD1.out) (by omega)).trans HD1.out
  have e0 : P2.cell? ⟨P1.heap.size, 1, none⟩ = some (.string ⟨#[]⟩) := by rw [Lib.cell_of_heap hd]; rfl
  have f0 := Lib.frozen_of_heap hd 1
  have HD2 := Lib.hid (show (P2.setCell ⟨P1.heap.size, 1, none⟩ (.string x1)).heap[P1.heap.size]? = some (.cells #[.int .i64 x0, .string x1, .string ⟨#[]⟩, .bool false, .int .i64 0, .slice none 0 0] 61 (0, 0)) from heap_set (j := 1) (.string x1) hd)
  have HF2 := Lib.hid ((HF1.out.trans hf).set (p := ⟨P1.heap.size, 1, none⟩) (.inr (by show _ ≤ P1.heap.size; omega)) (.string x1))
  have HQ2 := Lib.hid (hr.set (q := P1.heap.size) (o := 1) (by omega) (.string x1))
  have HJ2 := Lib.hid ((setCell_rest P2 ⟨P1.heap.size, 1, none⟩ (.string x1) W.heap.size (by simp; omega)).trans hj)
  clear hc hr hf hd hj HD1 HF1 HQ1 HJ1 
  go_wp2_with fail
  generalize P2.setCell ⟨P1.heap.size, 1, none⟩ (.string x1) = S2 at *
  clear e0 f0
  have hc := qd_text B b t2 S2 HQ2.out
  obtain ⟨⟨x2, t3⟩, hx⟩ : ∃ r, dText.q B t2 = r := ⟨_, rfl⟩
  rw [hx] at hc
  simp only at hc
  have HX2 := Lib.hid hx
  clear hx
  go_wp2_with (go_at_call 46; refine hc.mono ?_)
  rintro e P3 ⟨vs, rfl, hI, hr, hf⟩
  obtain rfl : vs = [.string x2] := hI
  simp only [mk1, List.headD_cons]
  have hj := (hf.block _ (heap_lt HJ2.out) (by omega)).trans HJ2.out
  have hd := (hf.block _ (heap_lt HD2.out) (by omega)).trans HD2.out
  have e0 : P3.cell? ⟨P1.heap.size, 2, none⟩ = some (.string ⟨#[]⟩) := by rw [Lib.cell_of_heap hd]; rfl
  have f0 := Lib.frozen_of_heap hd 2
  have HD3 := Lib.hid (show (P3.setCell ⟨P1.heap.size, 2, none⟩ (.string x2)).heap[P1.heap.size]? = some (.cells #[.int .i64 x0, .string x1, .string x2, .bool false, .int .i64 0, .slice none 0 0] 61 (0, 0)) from heap_set (j := 2) (.string x2) hd)
  have HF3 := Lib.hid ((HF2.out.trans hf).set (p := ⟨P1.heap.size, 2, none⟩) (.inr (by show _ ≤ P1.heap.size; omega)) (.string x2))
  have HQ3 := Lib.hid (hr.set (q := P1.heap.size) (o := 2) (by omega) (.string x2))
  have HJ3 := Lib.hid ((setCell_rest P3 ⟨P1.heap.size, 2, none⟩ (.string x2) W.heap.size (by simp; omega)).trans hj)
  clear hc hr hf hd hj HD2 HF2 HQ2 HJ2 
  go_wp2_with fail
  generalize P3.setCell ⟨P1.heap.size, 2, none⟩ (.string x2) = S3 at *
  clear e0 f0
  have hc := qd_num B b t3 S3 HQ3.out
  obtain ⟨⟨x3, t4⟩, hx⟩ : ∃ r, dNum.q B t3 = r := ⟨_, rfl⟩
  rw [hx] at hc
  simp only at hc
  have HX3 := Lib.hid hx
  clear hx
  go_wp2_with (go_at_call 53; refine hc.mono ?_)
  rintro e P4 ⟨vs, rfl, hI, hr, hf⟩
  obtain rfl : vs = [.int .i64 x3] := hI
  simp only [mk1, List.headD_cons]
  have hj := (hf.block _ (heap_lt HJ3.out) (by omega)).trans HJ3.out
  have hd := (hf.block _ (heap_lt HD3.out) (by omega)).trans HD3.out
  have e0 : P4.cell? ⟨P1.heap.size, 3, none⟩ = some (.bool false) := by rw [Lib.cell_of_heap hd]; rfl
  have f0 := Lib.frozen_of_heap hd 3
  have HD4 := Lib.hid (show (P4.setCell ⟨P1.heap.size, 3, none⟩ (.bool (x3 == 1))).heap[P1.heap.size]? = some (.cells #[.int .i64 x0, .string x1, .string x2, .bool (x3 == 1), .int .i64 0, .slice none 0 0] 61 (0, 0)) from heap_set (j := 3) (.bool (x3 == 1)) hd)
  have HF4 := Lib.hid ((HF3.out.trans hf).set (p := ⟨P1.heap.size, 3, none⟩) (.inr (by show _ ≤ P1.heap.size; omega)) (.bool (x3 == 1)))
  have HQ4 := Lib.hid (hr.set (q := P1.heap.size) (o := 3) (by omega) (.bool (x3 == 1)))
  have HJ4 := Lib.hid ((setCell_rest P4 ⟨P1.heap.size, 3, none⟩ (.bool (x3 == 1)) W.heap.size (by simp; omega)).trans hj)
  clear hc hr hf hd hj HD3 HF3 HQ3 HJ3 
  go_wp2_with fail
  generalize P4.setCell ⟨P1.heap.size, 3, none⟩ (.bool (x3 == 1)) = S4 at *
  clear e0 f0
  have hc := qd_num B b t4 S4 HQ4.out
  obtain ⟨⟨x4, t5⟩, hx⟩ : ∃ r, dNum.q B t4 = r := ⟨_, rfl⟩
  rw [hx] at hc
  simp only at hc
  have HX4 := Lib.hid hx
  clear hx
  go_wp2_with (go_at_call 53; refine hc.mono ?_)
  rintro e P5 ⟨vs, rfl, hI, hr, hf⟩
  obtain rfl : vs = [.int .i64 x4] := hI
  simp only [mk1, List.headD_cons]
  have hj := (hf.block _ (heap_lt HJ4.out) (by omega)).trans HJ4.out
  have hd := (hf.block _ (heap_lt HD4.out) (by omega)).trans HD4.out
  have e0 : P5.cell? ⟨P1.heap.size, 4, none⟩ = some (.int .i64 0) := by rw [Lib.cell_of_heap hd]; rfl
  have f0 := Lib.frozen_of_heap hd 4
  have HD5 := Lib.hid (show (P5.setCell ⟨P1.heap.size, 4, none⟩ (.int .i64 x4)).heap[P1.heap.size]? = some (.cells #[.int .i64 x0, .string x1, .string x2, .bool (x3 == 1), .int .i64 x4, .slice none 0 0] 61 (0, 0)) from heap_set (j := 4) (.int .i64 x4) hd)
  have HF5 := Lib.hid ((HF4.out.trans hf).set (p := ⟨P1.heap.size, 4, none⟩) (.inr (by show _ ≤ P1.heap.size; omega)) (.int .i64 x4))
  have HQ5 := Lib.hid (hr.set (q := P1.heap.size) (o := 4) (by omega) (.int .i64 x4))
  have HJ5 := Lib.hid ((setCell_rest P5 ⟨P1.heap.size, 4, none⟩ (.int .i64 x4) W.heap.size (by simp; omega)).trans hj)
  clear hc hr hf hd hj HD4 HF4 HQ4 HJ4 
  go_wp2_with fail
  generalize P5.setCell ⟨P1.heap.size, 4, none⟩ (.int .i64 x4) = S5 at *
  clear e0 f0
  have hc := qmany_any B b t5 S5 HQ5.out
  have hcl := rCount_le B 1 t5
  obtain ⟨⟨cnt, t0⟩, hx⟩ : ∃ r, rCount B 1 t5 = r := ⟨_, rfl⟩
  rw [hx] at hc hcl
  simp only at hc hcl
  have HXM := Lib.hid hx
  obtain ⟨R, hres⟩ : ∃ R, qGo (dOp.q B) cnt [] t0 = R := ⟨_, rfl⟩
  have HRL := Lib.hid hres
  clear hx hres
  go_wp2_with (go_at_call 47; refine hc.mono ?_)
  rintro e PM ⟨rfl, hr, hf⟩
  have HQM := Lib.hid hr
  have HFM := Lib.hid (HF5.out.trans hf)
  have HDM := Lib.hid ((hf.block _ (heap_lt HD5.out) (by omega)).trans HD5.out)
  have HJM := Lib.hid ((hf.block _ (heap_lt HJ5.out) (by omega)).trans HJ5.out)
  clear hc hr hf HD5 HF5 HQ5 HJ5 
  go_wp2_with fail
  go_loopw [5, 6] (fun i _ wr => ∃ (k : Nat) (acc : List OpD) (t : Rst) (v : Value), k ≤ cnt ∧ i = .int .i64 k ∧ acc.length = k ∧ Lst shOp W.heap.size 127 [] wr v acc ∧ QAt wr b B t ∧ KFr b W wr ∧ qGo (dOp.q B) (cnt - k) acc t = R ∧ wr.heap[P1.heap.size]? = some (.cells #[.int .i64 x0, .string x1, .string x2, .bool (x3 == 1), .int .i64 x4, v] 61 (0, 0)) ∧ wr.heap[W.heap.size]? = some (.cells #[.int .i64 0, .string ⟨#[]⟩, .string ⟨#[]⟩, .bool false, .int .i64 0, .slice none 0 0] 61 (0, 0))) (fun i _ _ => cnt - (intOf i).toNat)
  case atStart => exact ⟨0, [], t0, .slice none 0 0, Nat.zero_le _, rfl, rfl, Lst.nil, HQM.out, HFM.out, by rw [Nat.sub_zero]; exact HRL.out, HDM.out, HJM.out⟩
  case round =>
    clear HQM HFM HDM HJM 
    obtain ⟨k, acc, t, v, hk, rfl, hal, hl, hr, hf, hgo, hd, hj⟩ := hrel
    obtain ⟨a99, n99, cap99, g0, g1, g2, g3, g4, -⟩ := hr.cells
    have HL := Lib.hid hl
    have HR := Lib.hid hr
    have HF := Lib.hid hf
    have HGO := Lib.hid hgo
    have HAL := Lib.hid hal
    have HD := Lib.hid hd
    have HJ := Lib.hid hj
    clear hl hr hf hgo g0 g1 g3 g4 hal hd hj 
    have hend : (k = cnt ∨ t.wrong = true) → R = (acc, t) := by
      rintro (rfl | hw)
      · have := HGO.out; rw [Nat.sub_self] at this; exact this.symm
      · rw [← HGO.out, qGo_bad hw]
    by_cases hlt : k < cnt
    · have i0 : (k : Int) < (cnt : Int) := by omega
      have hm : cnt - k = (cnt - (k + 1)) + 1 := by omega
      rw [hm] at HGO
      cases hw : t.wrong with
      | true =>
        rw [hw] at g2
        have HE := Lib.hid (hend (.inr hw))
        obtain ⟨a9, q9, rfl⟩ := HL.out.form
        clear hend hw
        have HBN := Lib.hid (setRow_same #[.int .i64 x0, .string x1, .string x2, .bool (x3 == 1), .int .i64 x4, .slice a9 acc.length q9] HJ.out)
        have HGN := Lib.hid (HF.out.row (Nat.le_refl W.heap.size) #[.int .i64 x0, .string x1, .string x2, .bool (x3 == 1), .int .i64 x4, .slice a9 acc.length q9])
        have HRRN := Lib.hid (HR.out.row (q := W.heap.size) hblt #[.int .i64 x0, .string x1, .string x2, .bool (x3 == 1), .int .i64 x4, .slice a9 acc.length q9])
        have hkn : Kp W.heap.size ([127] : List TypeId) wr (wr.setRow W.heap.size #[.int .i64 x0, .string x1, .string x2, .bool (x3 == 1), .int .i64 x4, .slice a9 acc.length q9]) := Kp.row HJ.out (by decide) #[.int .i64 x0, .string x1, .string x2, .bool (x3 == 1), .int .i64 x4, .slice a9 acc.length q9]
        have HLN := Lib.hid (row_step (HL.out.row rfl) (hkn.sub (by decide)) (Nat.le_refl _) (show ∀ t, t ∈ ([127] : List TypeId) → t ∈ ([127] : List TypeId) by decide))
        have hone : (#[.int .i64 x0, .string x1, .string x2, .bool (x3 == 1), .int .i64 x4, .slice a9 acc.length q9] : Array Value).all (·.oneCell') = true := by simp [Value.oneCell']
        clear hkn
        go_wp2_with (first | (refine wpList_load_row rfl 61 (.tmp 3) rfl P1.heap.size rfl 61 #[.int .i64 x0, .string x1, .string x2, .bool (x3 == 1), .int .i64 x4, .slice a9 acc.length q9] (0, 0) _ HD.out Tryz.underlying61 rfl size61 ?_) | (refine wpList_store_row rfl 61 (.tmp 2) (.tmp 52) rfl W.heap.size #[.int .i64 x0, .string x1, .string x2, .bool (x3 == 1), .int .i64 x4, .slice a9 acc.length q9] rfl rfl 61 #[.int .i64 0, .string ⟨#[]⟩, .string ⟨#[]⟩, .bool false, .int .i64 0, .slice none 0 0] HJ.out size61 rfl hone ?_))
        refine bodyPost_ret (by exact results_cell_row (p := 2) (ty := 61) rfl _ _ W.heap.size 61 #[.int .i64 x0, .string x1, .string x2, .bool (x3 == 1), .int .i64 x4, .slice a9 acc.length q9] (0, 0) _ rfl HBN.out Tryz.underlying61 rfl size61) rfl ?_
        have hR : RT = (⟨x0, x1, x2, (x3 == 1), x4, acc⟩, t) := by
          rw [← HRT.out]
          exact iso_q (pair_q (pair_q (pair_q (pair_q (pair_q HX0.out HX1.out) HX2.out) (flag_q HX3.out)) HX4.out) (many_q HXM.out (HRL.out.trans HE.out)))
        rw [hR]
        exact ⟨_, rfl, code_is.2 ⟨_, _, _, rfl, HLN.out⟩, HRRN.out, HGN.out⟩
      | false =>
        rw [hw] at g2
        have HW := Lib.hid hw
        clear hw hend
        have hc := qd_num B b t wr HR.out
        obtain ⟨⟨y0, u1⟩, hx⟩ : ∃ r, dNum.q B t = r := ⟨_, rfl⟩
        rw [hx] at hc
        simp only at hc
        have HY0 := Lib.hid hx
        clear hx
        go_wp2_with (go_at_call 53; refine hc.mono ?_)
        rintro e V1 ⟨vs, rfl, hI, hr, hf⟩
        obtain rfl : vs = [.int .i64 y0] := hI
        simp only [mk1, List.headD_cons]
        have hbq := hr.lt
        have HQ1 := Lib.hid (hr.box #[.int .i64 0, .int .i64 0, .int .i64 0] #[.int .i64 y0, .int .i64 0, .int .i64 0] 127)
        have HK1 := Lib.hid (hf.box #[.int .i64 0, .int .i64 0, .int .i64 0] #[.int .i64 y0, .int .i64 0, .int .i64 0] 127)
        have HB1 := Lib.hid (box_is V1 #[.int .i64 0, .int .i64 0, .int .i64 0] #[.int .i64 y0, .int .i64 0, .int .i64 0] 127)
        have HZ1 := Lib.hid (heap_alloc_new V1 (.cells #[.int .i64 0, .int .i64 0, .int .i64 0] 127))
        have hone : (#[.int .i64 y0, .int .i64 0, .int .i64 0] : Array Value).all (·.oneCell') = true := by simp [Value.oneCell']
        have hsv := hf.size
        have hsu1 : ((V1.alloc (.cells #[.int .i64 0, .int .i64 0, .int .i64 0] 127)).setRow V1.heap.size #[.int .i64 y0, .int .i64 0, .int .i64 0]).heap.size = V1.heap.size + 1 := by rw [size_setRow]; simp
        clear hc hr hf
        go_wp2_with (refine wpList_store_row rfl 127 (.tmp 6) (.tmp 39) rfl V1.heap.size #[.int .i64 y0, .int .i64 0, .int .i64 0] rfl rfl 127 #[.int .i64 0, .int .i64 0, .int .i64 0] HZ1.out size127 rfl hone ?_)
        generalize (V1.alloc (.cells #[.int .i64 0, .int .i64 0, .int .i64 0] 127)).setRow V1.heap.size #[.int .i64 y0, .int .i64 0, .int .i64 0] = U1 at *
        clear HZ1 hone
        have hc := qd_num B b u1 U1 HQ1.out
        obtain ⟨⟨y1, u2⟩, hx⟩ : ∃ r, dNum.q B u1 = r := ⟨_, rfl⟩
        rw [hx] at hc
        simp only at hc
        have HY1 := Lib.hid hx
        clear hx
        go_wp2_with (go_at_call 53; refine hc.mono ?_)
        rintro e V2 ⟨vs, rfl, hI, hr, hf⟩
        obtain rfl : vs = [.int .i64 y1] := hI
        simp only [mk1, List.headD_cons]
        have hb := (hf.block _ (heap_lt HB1.out) (by omega)).trans HB1.out
        have e0 : V2.cell? ⟨V1.heap.size, 1, none⟩ = some (.int .i64 0) := by rw [Lib.cell_of_heap hb]; rfl
        have f0 := Lib.frozen_of_heap hb 1
        have HB2 := Lib.hid (show (V2.setCell ⟨V1.heap.size, 1, none⟩ (.int .i64 y1)).heap[V1.heap.size]? = some (.cells #[.int .i64 y0, .int .i64 y1, .int .i64 0] 127 (0, 0)) from heap_set (j := 1) (.int .i64 y1) hb)
        have HK2 := Lib.hid ((HK1.out.trans hf).set (p := ⟨V1.heap.size, 1, none⟩) (.inr hsv) (.int .i64 y1))
        have HQ2 := Lib.hid (hr.set (q := V1.heap.size) (o := 1) (by omega) (.int .i64 y1))
        clear hc hr hf hb HB1 HK1 HQ1
        go_wp2_with fail
        generalize V2.setCell ⟨V1.heap.size, 1, none⟩ (.int .i64 y1) = U2 at *
        clear e0 f0
        have hc := qd_num B b u2 U2 HQ2.out
        obtain ⟨⟨y2, u3⟩, hx⟩ : ∃ r, dNum.q B u2 = r := ⟨_, rfl⟩
        rw [hx] at hc
        simp only at hc
        have HY2 := Lib.hid hx
        clear hx
        go_wp2_with (go_at_call 53; refine hc.mono ?_)
        rintro e V3 ⟨vs, rfl, hI, hr, hf⟩
        obtain rfl : vs = [.int .i64 y2] := hI
        simp only [mk1, List.headD_cons]
        have hb := (hf.block _ (heap_lt HB2.out) (by omega)).trans HB2.out
        have e0 : V3.cell? ⟨V1.heap.size, 2, none⟩ = some (.int .i64 0) := by rw [Lib.cell_of_heap hb]; rfl
        have f0 := Lib.frozen_of_heap hb 2
        have HB3 := Lib.hid (show (V3.setCell ⟨V1.heap.size, 2, none⟩ (.int .i64 y2)).heap[V1.heap.size]? = some (.cells #[.int .i64 y0, .int .i64 y1, .int .i64 y2] 127 (0, 0)) from heap_set (j := 2) (.int .i64 y2) hb)
        have HK3 := Lib.hid ((HK2.out.trans hf).set (p := ⟨V1.heap.size, 2, none⟩) (.inr hsv) (.int .i64 y2))
        have HQ3 := Lib.hid (hr.set (q := V1.heap.size) (o := 2) (by omega) (.int .i64 y2))
        clear hc hr hf hb HB2 HK2 HQ2
        have HX := Lib.hid (show dOp.q B t = ((⟨y0, y1, y2⟩ : OpD), u3) from iso_q (pair_q (pair_q HY0.out HY1.out) HY2.out))
        have hsz := HF.out.size
        have hszu := HK3.out.size
        have hx0 : shOp.Is (SB W.heap.size [] (V3.setCell ⟨V1.heap.size, 2, none⟩ (.int .i64 y2))) (V3.setCell ⟨V1.heap.size, 2, none⟩ (.int .i64 y2)) [.int .i64 y0, .int .i64 y1, .int .i64 y2] ⟨y0, y1, y2⟩ := op_is.2 rfl
        obtain ⟨vss, hvl, hown, hIs⟩ := (HL.out.kfr HK3.out hblt).kp (Kp.alloc _ _ _ (.cells [.int .i64 y0, .int .i64 y1, .int .i64 y2].toArray 127))
        have HXE := Lib.hid (is_step hx0 (Kp.alloc W.heap.size [] (V3.setCell ⟨V1.heap.size, 2, none⟩ (.int .i64 y2)) (.cells [.int .i64 y0, .int .i64 y1, .int .i64 y2].toArray 127)))
        have HVL := Lib.hid hvl
        have HO2 := Lib.hid (HAL.out ▸ hown)
        have HOW := Lib.hid hown
        have HIS := Lib.hid hIs
        clear hown hIs hvl hx0
        have hbd := (HK3.out.block P1.heap.size (heap_lt HD.out) (by omega)).trans HD.out
        have e5 : (V3.setCell ⟨V1.heap.size, 2, none⟩ (.int .i64 y2)).cell? ⟨P1.heap.size, 5, none⟩ = some v := by rw [Lib.cell_of_heap hbd]; rfl
        have HBD := Lib.hid hbd
        clear hbd
        go_wp2_with (first | (refine wpList_load_row rfl 127 (.tmp 6) rfl V1.heap.size rfl 127 #[.int .i64 y0, .int .i64 y1, .int .i64 y2] (0, 0) _ HB3.out Tryz.underlying127 rfl size127 ?_) | (at_builtin; refine wpList_append_own _ rfl (.tmp 47) (.tmp 49) 59 rfl W.heap.size 127 i00 (.agg #[.int .i64 0, .int .i64 0, .int .i64 0]) 3 24 Tryz.underlying59 hi hz0 hz1 hz2 rfl (by decide) _ k vss.flatten rfl HO2.out ⟨V3.heap.size, 0, none⟩ 1 1 [.int .i64 y0, .int .i64 y1, .int .i64 y2] rfl rfl ?c1 ?c2 ?c3 ?c4 ?c5 ?_))
        case c1 => rw [show V3.heap.size = (V3.setCell ⟨V1.heap.size, 2, none⟩ (.int .i64 y2)).heap.size by simp]; exact lit_cells (V3.setCell ⟨V1.heap.size, 2, none⟩ (.int .i64 y2)) [.int .i64 y0, .int .i64 y1, .int .i64 y2].toArray 127
        case c2 => intro u hu; simp only [List.mem_cons, List.not_mem_nil, or_false] at hu; rcases hu with rfl | rfl | rfl <;> rfl
        case c3 => unfold maxLen; omega
        case c4 => omega
        case c5 => have hq : (V3.setCell ⟨V1.heap.size, 2, none⟩ (.int .i64 y2)).heap.size = V3.heap.size := by simp
                   simp; omega
        intro v1 W3 hown1 hgrow1 _
        obtain ⟨q1, q2, rfl⟩ := Joins.ownsRow_form hown1 (by omega)
        have HL3 := Lib.hid (Lst.push HVL.out HOW.out HIS.out HXE.out hgrow1 (by rw [HAL.out]; exact hown1) (by decide))
        have HFA := Lib.hid ((HF.out.trans HK3.out).alloc (.cells [.int .i64 y0, .int .i64 y1, .int .i64 y2].toArray 127))
        have HF3 := Lib.hid (HFA.out.grown hgrow1 HO2.out)
        have HR3 := Lib.hid ((HQ3.out.alloc (.cells [.int .i64 y0, .int .i64 y1, .int .i64 y2].toArray 127)).grown hblt hgrow1 HO2.out)
        have HA := Lib.hid ((Below.heap_alloc (V3.setCell ⟨V1.heap.size, 2, none⟩ (.int .i64 y2)) (.cells [.int .i64 y0, .int .i64 y1, .int .i64 y2].toArray 127) _ (heap_lt HBD.out)).trans HBD.out)
        have hd3 := grown_keep hgrow1 HO2.out HA.out (by decide)
        have hj1 := (HK3.out.block W.heap.size (heap_lt HJ.out) (by omega)).trans HJ.out
        have hj2 := (Below.heap_alloc (V3.setCell ⟨V1.heap.size, 2, none⟩ (.int .i64 y2)) (.cells [.int .i64 y0, .int .i64 y1, .int .i64 y2].toArray 127) _ (heap_lt hj1)).trans hj1
        have hj3 := grown_keep hgrow1 HO2.out hj2 (by decide)
        have e6 : W3.cell? ⟨P1.heap.size, 5, none⟩ = some v := by rw [Lib.cell_of_heap hd3]; rfl
        have f6 := Lib.frozen_of_heap hd3 5
        have HD4 := Lib.hid (show (W3.setCell ⟨P1.heap.size, 5, none⟩ (.slice (some ⟨q1, 0, none⟩) (k + 1) q2)).heap[P1.heap.size]? = some (.cells #[.int .i64 x0, .string x1, .string x2, .bool (x3 == 1), .int .i64 x4, .slice (some ⟨q1, 0, none⟩) (k + 1) q2] 61 (0, 0)) from heap_set (j := 5) (.slice (some ⟨q1, 0, none⟩) (k + 1) q2) hd3)
        have HJ4 := Lib.hid ((setCell_rest W3 ⟨P1.heap.size, 5, none⟩ (.slice (some ⟨q1, 0, none⟩) (k + 1) q2) W.heap.size (by simp; omega)).trans hj3)
        have HL4 := Lib.hid (HL3.out.kp (Kp.set (o := 5) hd3 (by decide) (.slice (some ⟨q1, 0, none⟩) (k + 1) q2)) : Lst _ _ _ _ (W3.setCell ⟨P1.heap.size, 5, none⟩ (.slice (some ⟨q1, 0, none⟩) (k + 1) q2)) _ _)
        have HF4 := Lib.hid (HF3.out.set (p := ⟨P1.heap.size, 5, none⟩) (.inr (by show _ ≤ P1.heap.size; omega)) (.slice (some ⟨q1, 0, none⟩) (k + 1) q2))
        have HR4 := Lib.hid (HR3.out.set (q := P1.heap.size) (o := 5) (by omega) (.slice (some ⟨q1, 0, none⟩) (k + 1) q2))
        clear hown1 hgrow1 hd3 hj1 hj2 hj3 HA HBD e5
        go_wp2_with fail
        refine ⟨⟨k + 1, _, u3, _, by omega, by go_num, by simp [HAL.out], HL4.out, HR4.out, HF4.out, ?_, HD4.out, HJ4.out⟩, by simp [intOf]; omega⟩
        have hg := HGO.out
        rw [qGo_one HW.out, HX.out] at hg
        exact hg
    · obtain rfl : k = cnt := by omega
      have HE := Lib.hid (hend (.inl rfl))
      obtain ⟨a9, q9, rfl⟩ := HL.out.form
      clear hend
      have HBN := Lib.hid (setRow_same #[.int .i64 x0, .string x1, .string x2, .bool (x3 == 1), .int .i64 x4, .slice a9 acc.length q9] HJ.out)
      have HGN := Lib.hid (HF.out.row (Nat.le_refl W.heap.size) #[.int .i64 x0, .string x1, .string x2, .bool (x3 == 1), .int .i64 x4, .slice a9 acc.length q9])
      have HRRN := Lib.hid (HR.out.row (q := W.heap.size) hblt #[.int .i64 x0, .string x1, .string x2, .bool (x3 == 1), .int .i64 x4, .slice a9 acc.length q9])
      have hkn : Kp W.heap.size ([127] : List TypeId) wr (wr.setRow W.heap.size #[.int .i64 x0, .string x1, .string x2, .bool (x3 == 1), .int .i64 x4, .slice a9 acc.length q9]) := Kp.row HJ.out (by decide) #[.int .i64 x0, .string x1, .string x2, .bool (x3 == 1), .int .i64 x4, .slice a9 acc.length q9]
      have HLN := Lib.hid (row_step (HL.out.row rfl) (hkn.sub (by decide)) (Nat.le_refl _) (show ∀ t, t ∈ ([127] : List TypeId) → t ∈ ([127] : List TypeId) by decide))
      have hone : (#[.int .i64 x0, .string x1, .string x2, .bool (x3 == 1), .int .i64 x4, .slice a9 acc.length q9] : Array Value).all (·.oneCell') = true := by simp [Value.oneCell']
      clear hkn
      go_wp2_with (first | (refine wpList_load_row rfl 61 (.tmp 3) rfl P1.heap.size rfl 61 #[.int .i64 x0, .string x1, .string x2, .bool (x3 == 1), .int .i64 x4, .slice a9 acc.length q9] (0, 0) _ HD.out Tryz.underlying61 rfl size61 ?_) | (refine wpList_store_row rfl 61 (.tmp 2) (.tmp 52) rfl W.heap.size #[.int .i64 x0, .string x1, .string x2, .bool (x3 == 1), .int .i64 x4, .slice a9 acc.length q9] rfl rfl 61 #[.int .i64 0, .string ⟨#[]⟩, .string ⟨#[]⟩, .bool false, .int .i64 0, .slice none 0 0] HJ.out size61 rfl hone ?_))
      refine bodyPost_ret (by exact results_cell_row (p := 2) (ty := 61) rfl _ _ W.heap.size 61 #[.int .i64 x0, .string x1, .string x2, .bool (x3 == 1), .int .i64 x4, .slice a9 acc.length q9] (0, 0) _ rfl HBN.out Tryz.underlying61 rfl size61) rfl ?_
      have hR : RT = (⟨x0, x1, x2, (x3 == 1), x4, acc⟩, t) := by
        rw [← HRT.out]
        exact iso_q (pair_q (pair_q (pair_q (pair_q (pair_q HX0.out HX1.out) HX2.out) (flag_q HX3.out)) HX4.out) (many_q HXM.out (HRL.out.trans HE.out)))
      rw [hR]
      exact ⟨_, rfl, code_is.2 ⟨_, _, _, rfl, HLN.out⟩, HRRN.out, HGN.out⟩
end Go.Proofs.YtoaohoeghlidaaaGreatDoor
