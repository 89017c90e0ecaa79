/-
  The document's writer: classes, codes.
-/
import Derived.Test.YtoaohoeghlidaaaGreatDoorVList
namespace Go.Proofs.YtoaohoeghlidaaaGreatDoor
open Go.ChangeShapes Go.WideShapes Go.ChangeAt Go.RowKit

set_option maxHeartbeats 6400000 in
set_option maxRecDepth 100000 in
theorem vr_desc : Vr 27 mkA shDesc dDesc := by
  intro B b s vs z W hI h hs hB
  obtain ⟨a2, l2, c2, a3, l3, c3, a4, l4, c4, a5, l5, c5, rfl, h2, h3, h4, h5⟩ := desc_is.1 hI
  obtain ⟨s1, hs1⟩ : ∃ r, dNum.v z.base s = r := ⟨_, rfl⟩
  have hms1 : s.bs.length ≤ s1.bs.length := by rw [← hs1]; exact dNum.mono _ _
  obtain ⟨s2, hs2⟩ : ∃ r, dText.v z.fields s1 = r := ⟨_, rfl⟩
  have hms2 : s1.bs.length ≤ s2.bs.length := by rw [← hs2]; exact dText.mono _ _
  obtain ⟨s3, hs3⟩ : ∃ r, (dList dNum).v z.init s2 = r := ⟨_, rfl⟩
  have hms3 : s2.bs.length ≤ s3.bs.length := by rw [← hs3]; exact (dList dNum).mono _ _
  obtain ⟨s4, hs4⟩ : ∃ r, (dList dNum).v z.vtable s3 = r := ⟨_, rfl⟩
  have hms4 : s3.bs.length ≤ s4.bs.length := by rw [← hs4]; exact (dList dNum).mono _ _
  obtain ⟨s5, hs5⟩ : ∃ r, (dList dText).v z.sigs s4 = r := ⟨_, rfl⟩
  have hms5 : s4.bs.length ≤ s5.bs.length := by rw [← hs5]; exact (dList dText).mono _ _
  obtain ⟨q5, hq5⟩ : ∃ r, vMany l5 s5 = r := ⟨_, rfl⟩
  have hmq5 : s5.bs.length + 4 = q5.bs.length := by rw [← hq5]; exact (many_len _ _).symm
  obtain ⟨s6, hs6⟩ : ∃ r, vGo dTable.v z.tables q5 = r := ⟨_, rfl⟩
  have hms6 : q5.bs.length ≤ s6.bs.length := by rw [← hs6]; exact vGo_mono dTable _ _
  have hv : dDesc.v z s = s6 := by rw [← hs6, ← hq5, ← h5.1, ← hs5, ← hs4, ← hs3, ← hs2, ← hs1]; rfl
  rw [hv] at hs ⊢
  have HS1 := Lib.hid hs1
  have HS2 := Lib.hid hs2
  have HS3 := Lib.hid hs3
  have HS4 := Lib.hid hs4
  have HS5 := Lib.hid hs5
  have HS6 := Lib.hid hs6
  have HQ5 := Lib.hid hq5
  have HR2 := Lib.hid h2
  have HR3 := Lib.hid h3
  have HR4 := Lib.hid h4
  have HR5 := Lib.hid h5
  have HD0 := Lib.hid (show (W.alloc (.cells #[.int .i64 z.base, .string z.fields, .slice a2 l2 c2, .slice a3 l3 c3, .slice a4 l4 c4, .slice a5 l5 c5] 56)).heap[W.heap.size]? = some (.cells #[.int .i64 z.base, .string z.fields, .slice a2 l2 c2, .slice a3 l3 c3, .slice a4 l4 c4, .slice a5 l5 c5] 56 (0, 0)) from heap_alloc_new W _)
  have HF0 := Lib.hid ((Fr.refl 70 5 B W).alloc hB (.cells #[.int .i64 z.base, .string z.fields, .slice a2 l2 c2, .slice a3 l3 c3, .slice a4 l4 c4, .slice a5 l5 c5] 56))
  have HW0 := Lib.hid (h.alloc (.cells #[.int .i64 z.base, .string z.fields, .slice a2 l2 c2, .slice a3 l3 c3, .slice a4 l4 c4, .slice a5 l5 c5] 56))
  clear hI h hv hs1 hs2 hs3 hs4 hs5 hs6 hq5 h2 h3 h4 h5
  show Calls Tryz.prog 27 #[.pointer (some ⟨b, 0, none⟩), .agg #[.int .i64 z.base, .string z.fields, .slice a2 l2 c2, .slice a3 l3 c3, .slice a4 l4 c4, .slice a5 l5 c5]] W _
  go_enter Tryz.func27, Tryz.ntmps27
  have hc := vr_num B b s [.int .i64 z.base] (z.base) (W.alloc (.cells #[.int .i64 z.base, .string z.fields, .slice a2 l2 c2, .slice a3 l3 c3, .slice a4 l4 c4, .slice a5 l5 c5] 56)) (show _ from rfl) HW0.out (by rw [HS1.out]; omega) (Nat.le_trans hB HF0.out.size)
  rw [HS1.out] at hc
  go_wp2_with (go_at_call 31; refine hc.mono ?_)
  first | rintro e V1 rfl hw1 hf1 | rintro e V1 ⟨rfl, hw1, hf1⟩
  have HW1 := Lib.hid hw1
  have HF1 := Lib.hid (HF0.out.trans hf1)
  have HD1 := Lib.hid ((hf1.oth _ _ _ _ HD0.out (by decide) (by decide)).trans HD0.out)
  clear hw1 hf1 hc HW0 HF0 HD0 
  have e1 : V1.cell? ⟨W.heap.size, 1, none⟩ = some (.string z.fields) := by rw [Lib.cell_of_heap HD1.out]; rfl
  have hc := vr_text B b s1 [.string z.fields] (z.fields) V1 (show _ from rfl) HW1.out (by rw [HS2.out]; omega) (Nat.le_trans hB HF1.out.size)
  rw [HS2.out] at hc
  go_wp2_with (go_at_call 24; refine hc.mono ?_)
  first | rintro e V2 rfl hw1 hf1 | rintro e V2 ⟨rfl, hw1, hf1⟩
  have HW2 := Lib.hid hw1
  have HF2 := Lib.hid (HF1.out.trans hf1)
  have HD2 := Lib.hid ((hf1.oth _ _ _ _ HD1.out (by decide) (by decide)).trans HD1.out)
  clear hw1 hf1 hc HW1 HF1 HD1 e1
  have e2 : V2.cell? ⟨W.heap.size, 2, none⟩ = some (.slice a2 l2 c2) := by rw [Lib.cell_of_heap HD2.out]; rfl
  have hc := vr_nums B b s2 [.slice a2 l2 c2] (z.init) V2 (slice_is.2 ⟨_, _, _, rfl, kept_row7 HR2.out HF2.out⟩) HW2.out (by rw [HS3.out]; omega) (Nat.le_trans hB HF2.out.size)
  rw [HS3.out] at hc
  go_wp2_with (go_at_call 29; refine hc.mono ?_)
  first | rintro e V3 rfl hw1 hf1 | rintro e V3 ⟨rfl, hw1, hf1⟩
  have HW3 := Lib.hid hw1
  have HF3 := Lib.hid (HF2.out.trans hf1)
  have HD3 := Lib.hid ((hf1.oth _ _ _ _ HD2.out (by decide) (by decide)).trans HD2.out)
  clear hw1 hf1 hc HW2 HF2 HD2 e2
  have e3 : V3.cell? ⟨W.heap.size, 3, none⟩ = some (.slice a3 l3 c3) := by rw [Lib.cell_of_heap HD3.out]; rfl
  have hc := vr_nums B b s3 [.slice a3 l3 c3] (z.vtable) V3 (slice_is.2 ⟨_, _, _, rfl, kept_row7 HR3.out HF3.out⟩) HW3.out (by rw [HS4.out]; omega) (Nat.le_trans hB HF3.out.size)
  rw [HS4.out] at hc
  go_wp2_with (go_at_call 29; refine hc.mono ?_)
  first | rintro e V4 rfl hw1 hf1 | rintro e V4 ⟨rfl, hw1, hf1⟩
  have HW4 := Lib.hid hw1
  have HF4 := Lib.hid (HF3.out.trans hf1)
  have HD4 := Lib.hid ((hf1.oth _ _ _ _ HD3.out (by decide) (by decide)).trans HD3.out)
  clear hw1 hf1 hc HW3 HF3 HD3 e3
  have e4 : V4.cell? ⟨W.heap.size, 4, none⟩ = some (.slice a4 l4 c4) := by rw [Lib.cell_of_heap HD4.out]; rfl
  have hc := vr_texts B b s4 [.slice a4 l4 c4] (z.sigs) V4 (slice_is.2 ⟨_, _, _, rfl, kept_row7 HR4.out HF4.out⟩) HW4.out (by rw [HS5.out]; omega) (Nat.le_trans hB HF4.out.size)
  rw [HS5.out] at hc
  go_wp2_with (go_at_call 26; refine hc.mono ?_)
  first | rintro e V5 rfl hw1 hf1 | rintro e V5 ⟨rfl, hw1, hf1⟩
  have HW5 := Lib.hid hw1
  have HF5 := Lib.hid (HF4.out.trans hf1)
  have HD5 := Lib.hid ((hf1.oth _ _ _ _ HD4.out (by decide) (by decide)).trans HD4.out)
  clear hw1 hf1 hc HW4 HF4 HD4 e4
  have e5 : V5.cell? ⟨W.heap.size, 5, none⟩ = some (.slice a5 l5 c5) := by rw [Lib.cell_of_heap HD5.out]; rfl
  have hc := vmany_any l5 B b s5 (by omega) V5 (Nat.le_trans hB HF5.out.size) HW5.out
  rw [HQ5.out] at hc
  go_wp2_with (go_at_call 25; refine hc.mono ?_)
  first | rintro e U5 rfl hw1 hf1 | rintro e U5 ⟨rfl, hw1, hf1⟩
  have HWU := Lib.hid hw1
  have HFU := Lib.hid (HF5.out.trans hf1)
  have HDU := Lib.hid ((hf1.oth _ _ _ _ HD5.out (by decide) (by decide)).trans HD5.out)
  clear hw1 hf1 hc HW5 HF5 HD5 e5
  go_wp2_with fail
  go_loopw [4] (fun i wr => ∃ (k : Nat) (t : Wst), k ≤ l5 ∧ i = .int .i64 k ∧ VAt wr B b t ∧ Fr 70 5 B W wr ∧ wr.heap[W.heap.size]? = some (.cells #[.int .i64 z.base, .string z.fields, .slice a2 l2 c2, .slice a3 l3 c3, .slice a4 l4 c4, .slice a5 l5 c5] 56 (0, 0)) ∧ vGo dTable.v (z.tables.drop k) t = s6) (fun i _ => l5 - (intOf i).toNat)
  case atStart => exact ⟨0, _, Nat.zero_le _, rfl, HWU.out, HFU.out, HDU.out, by rw [List.drop_zero]; exact HS6.out⟩
  case round =>
    clear HWU HFU HDU
    obtain ⟨k, t, hk, rfl, hw, hf, hd, hgo⟩ := hrel
    have HGO := Lib.hid hgo
    have HW := Lib.hid hw
    have HFR := Lib.hid hf
    have HD := Lib.hid hd
    clear hw hf hgo hd
    have ed : wr.cell? ⟨W.heap.size, 5, none⟩ = some (.slice a5 l5 c5) := by rw [Lib.cell_of_heap HD.out]; rfl
    by_cases hlt : k < l5
    · obtain ⟨bb, o, x, vs', hae, hbb, hx, hC, hI⟩ := (kept_row7 HR5.out HFR.out).item hlt
      rw [hae] at ed
      have HAE := Lib.hid hae
      clear hae
      have hlm := row_max HR5.out
      have i0 : (k : Int) < (l5 : Int) := by omega
      have i1 : (0 : Int) ≤ (k : Int) := by omega
      obtain ⟨ta, tl, tc, rfl, hro⟩ := table_is.1 hI
      have HRO := Lib.hid hro
      clear hro
      have HX := Lib.hid hx
      have HBB := Lib.hid hbb
      have HC := Lib.hid hC
      clear hC hx hbb hI
      obtain ⟨r1, hr1⟩ : ∃ r, dNum.v x.face t = r := ⟨_, rfl⟩
      have hm1 : t.bs.length ≤ r1.bs.length := by rw [← hr1]; exact dNum.mono _ _
      have HS1 := Lib.hid hr1
      obtain ⟨r2, hr2⟩ : ∃ r, (dList dNum).v x.slots r1 = r := ⟨_, rfl⟩
      have hm2 : r1.bs.length ≤ r2.bs.length := by rw [← hr2]; exact (dList dNum).mono _ _
      have HS2 := Lib.hid hr2
      have hlast : r2.bs.length ≤ s6.bs.length := by
        have h9 := HGO.out
        rw [vGo_next HX.out, show dTable.v x t = r2 from by rw [← HS2.out]; rw [← HS1.out] <;> rfl] at h9
        rw [← h9]
        exact vGo_mono dTable _ _
      clear hr1 hr2
      have ee : wr.cell? ⟨bb, o + k * 2, none⟩ = some (.int .i64 x.face) := (HC.out.keep ((Fr.refl 70 5 B wr).below.block bb HBB.out)) 0 _ rfl
      have hc := vr_num B b t [.int .i64 x.face] (x.face) wr (show _ from rfl) HW.out (by rw [HS1.out]; omega) (Nat.le_trans hB (Nat.le_trans HFR.out.size (Fr.refl 70 5 B wr).size))
      rw [HS1.out] at hc
      go_wp2_with (go_at_call 31; refine hc.mono ?_)
      first | rintro e Y1 rfl hw2 hf2 | rintro e Y1 ⟨rfl, hw2, hf2⟩
      have HV1 := Lib.hid hw2
      have HK1 := Lib.hid ((Fr.refl 70 5 B wr).trans hf2)
      clear hw2 hf2 hc ee ed
      have ee : Y1.cell? ⟨bb, o + k * 2 + 1, none⟩ = some (.slice ta tl tc) := (HC.out.keep (HK1.out.below.block bb HBB.out)) 1 _ rfl
      have ed : Y1.cell? ⟨W.heap.size, 5, none⟩ = some (.slice a5 l5 c5) := by rw [Lib.cell_of_heap ((HK1.out.oth _ _ _ _ HD.out (by decide) (by decide)).trans HD.out)]; rfl
      rw [HAE.out] at ed
      have hc := vr_nums B b r1 [.slice ta tl tc] (x.slots) Y1 (slice_is.2 ⟨_, _, _, rfl, kept_row7 HRO.out HK1.out⟩) HV1.out (by rw [HS2.out]; omega) (Nat.le_trans hB (Nat.le_trans HFR.out.size HK1.out.size))
      rw [HS2.out] at hc
      go_wp2_with (go_at_call 29; refine hc.mono ?_)
      first | rintro e Y2 rfl hw2 hf2 | rintro e Y2 ⟨rfl, hw2, hf2⟩
      have HV2 := Lib.hid hw2
      have HK2 := Lib.hid (HK1.out.trans hf2)
      clear hw2 hf2 hc ee ed
      have HNX := Lib.hid (show dTable.v x t = r2 from by rw [← HS2.out]; rw [← HS1.out] <;> rfl)
      go_wp2_with fail
      refine ⟨⟨k + 1, r2, by omega, by go_num, HV2.out, HFR.out.trans HK2.out, (HK2.out.oth _ _ _ _ HD.out (by decide) (by decide)).trans HD.out, ?_⟩, by simp [intOf]; omega⟩
      rw [← HGO.out, vGo_next HX.out, HNX.out]
    · obtain rfl : l5 = k := by omega
      have HEND := Lib.hid (show s6 = t by rw [← HGO.out, List.drop_of_length_le (by rw [HR5.out.1]; exact Nat.le_refl _)]; rfl)
      obtain rfl := HEND.out
      obtain ⟨V6, hV⟩ : ∃ V, V = wr := ⟨_, rfl⟩
      rw [← hV] at HW HFR HD ed ⊢
      have HW6 := HW
      have HF6 := HFR
      have HD6 := HD
      clear HW HFR HD hV HEND HGO hlt
      go_wp2_with fail
      go_returns
      exact ⟨rfl, HW6.out, HF6.out⟩

set_option maxHeartbeats 6400000 in
set_option maxRecDepth 100000 in
theorem vr_code : Vr 28 mkA shCode dCode := by
  intro B b s vs z W hI h hs hB
  obtain ⟨a5, l5, c5, rfl, h5⟩ := code_is.1 hI
  obtain ⟨s1, hs1⟩ : ∃ r, dNum.v z.cls s = r := ⟨_, rfl⟩
  have hms1 : s.bs.length ≤ s1.bs.length := by rw [← hs1]; exact dNum.mono _ _
  obtain ⟨s2, hs2⟩ : ∃ r, dText.v z.params s1 = r := ⟨_, rfl⟩
  have hms2 : s1.bs.length ≤ s2.bs.length := by rw [← hs2]; exact dText.mono _ _
  obtain ⟨s3, hs3⟩ : ∃ r, dText.v z.locals s2 = r := ⟨_, rfl⟩
  have hms3 : s2.bs.length ≤ s3.bs.length := by rw [← hs3]; exact dText.mono _ _
  obtain ⟨s4, hs4⟩ : ∃ r, dFlag.v z.ret s3 = r := ⟨_, rfl⟩
  have hms4 : s3.bs.length ≤ s4.bs.length := by rw [← hs4]; exact dFlag.mono _ _
  obtain ⟨s5, hs5⟩ : ∃ r, dNum.v z.stack s4 = r := ⟨_, rfl⟩
  have hms5 : s4.bs.length ≤ s5.bs.length := by rw [← hs5]; exact dNum.mono _ _
  obtain ⟨q5, hq5⟩ : ∃ r, vMany l5 s5 = r := ⟨_, rfl⟩
  have hmq5 : s5.bs.length + 4 = q5.bs.length := by rw [← hq5]; exact (many_len _ _).symm
  obtain ⟨s6, hs6⟩ : ∃ r, vGo dOp.v z.ops q5 = r := ⟨_, rfl⟩
  have hms6 : q5.bs.length ≤ s6.bs.length := by rw [← hs6]; exact vGo_mono dOp _ _
  have hv : dCode.v z s = s6 := by rw [← hs6, ← hq5, ← h5.1, ← hs5, ← hs4, ← hs3, ← hs2, ← hs1]; rfl
  rw [hv] at hs ⊢
  have HS1 := Lib.hid hs1
  have HS2 := Lib.hid hs2
  have HS3 := Lib.hid hs3
  have HS4 := Lib.hid hs4
  have HS5 := Lib.hid hs5
  have HS6 := Lib.hid hs6
  have HQ5 := Lib.hid hq5
  have HR5 := Lib.hid h5
  have HD0 := Lib.hid (show (W.alloc (.cells #[.int .i64 z.cls, .string z.params, .string z.locals, .bool z.ret, .int .i64 z.stack, .slice a5 l5 c5] 61)).heap[W.heap.size]? = some (.cells #[.int .i64 z.cls, .string z.params, .string z.locals, .bool z.ret, .int .i64 z.stack, .slice a5 l5 c5] 61 (0, 0)) from heap_alloc_new W _)
  have HF0 := Lib.hid ((Fr.refl 70 5 B W).alloc hB (.cells #[.int .i64 z.cls, .string z.params, .string z.locals, .bool z.ret, .int .i64 z.stack, .slice a5 l5 c5] 61))
  have HW0 := Lib.hid (h.alloc (.cells #[.int .i64 z.cls, .string z.params, .string z.locals, .bool z.ret, .int .i64 z.stack, .slice a5 l5 c5] 61))
  clear hI h hv hs1 hs2 hs3 hs4 hs5 hs6 hq5 h5
  show Calls Tryz.prog 28 #[.pointer (some ⟨b, 0, none⟩), .agg #[.int .i64 z.cls, .string z.params, .string z.locals, .bool z.ret, .int .i64 z.stack, .slice a5 l5 c5]] W _
  go_enter Tryz.func28, Tryz.ntmps28
  have hc := vr_num B b s [.int .i64 z.cls] (z.cls) (W.alloc (.cells #[.int .i64 z.cls, .string z.params, .string z.locals, .bool z.ret, .int .i64 z.stack, .slice a5 l5 c5] 61)) (show _ from rfl) HW0.out (by rw [HS1.out]; omega) (Nat.le_trans hB HF0.out.size)
  rw [HS1.out] at hc
  go_wp2_with (go_at_call 31; refine hc.mono ?_)
  first | rintro e V1 rfl hw1 hf1 | rintro e V1 ⟨rfl, hw1, hf1⟩
  have HW1 := Lib.hid hw1
  have HF1 := Lib.hid (HF0.out.trans hf1)
  have HD1 := Lib.hid ((hf1.oth _ _ _ _ HD0.out (by decide) (by decide)).trans HD0.out)
  clear hw1 hf1 hc HW0 HF0 HD0 
  have e1 : V1.cell? ⟨W.heap.size, 1, none⟩ = some (.string z.params) := by rw [Lib.cell_of_heap HD1.out]; rfl
  have hc := vr_text B b s1 [.string z.params] (z.params) V1 (show _ from rfl) HW1.out (by rw [HS2.out]; omega) (Nat.le_trans hB HF1.out.size)
  rw [HS2.out] at hc
  go_wp2_with (go_at_call 24; refine hc.mono ?_)
  first | rintro e V2 rfl hw1 hf1 | rintro e V2 ⟨rfl, hw1, hf1⟩
  have HW2 := Lib.hid hw1
  have HF2 := Lib.hid (HF1.out.trans hf1)
  have HD2 := Lib.hid ((hf1.oth _ _ _ _ HD1.out (by decide) (by decide)).trans HD1.out)
  clear hw1 hf1 hc HW1 HF1 HD1 e1
  have e2 : V2.cell? ⟨W.heap.size, 2, none⟩ = some (.string z.locals) := by rw [Lib.cell_of_heap HD2.out]; rfl
  have hc := vr_text B b s2 [.string z.locals] (z.locals) V2 (show _ from rfl) HW2.out (by rw [HS3.out]; omega) (Nat.le_trans hB HF2.out.size)
  rw [HS3.out] at hc
  go_wp2_with (go_at_call 24; refine hc.mono ?_)
  first | rintro e V3 rfl hw1 hf1 | rintro e V3 ⟨rfl, hw1, hf1⟩
  have HW3 := Lib.hid hw1
  have HF3 := Lib.hid (HF2.out.trans hf1)
  have HD3 := Lib.hid ((hf1.oth _ _ _ _ HD2.out (by decide) (by decide)).trans HD2.out)
  clear hw1 hf1 hc HW2 HF2 HD2 e2
  have e3 : V3.cell? ⟨W.heap.size, 3, none⟩ = some (.bool z.ret) := by rw [Lib.cell_of_heap HD3.out]; rfl
  have hc := vr_flag B b s3 [.bool z.ret] (z.ret) V3 (show _ from rfl) HW3.out (by rw [HS4.out]; omega) (Nat.le_trans hB HF3.out.size)
  rw [HS4.out] at hc
  go_wp2_with (go_at_call 68; refine hc.mono ?_)
  first | rintro e V4 rfl hw1 hf1 | rintro e V4 ⟨rfl, hw1, hf1⟩
  have HW4 := Lib.hid hw1
  have HF4 := Lib.hid (HF3.out.trans hf1)
  have HD4 := Lib.hid ((hf1.oth _ _ _ _ HD3.out (by decide) (by decide)).trans HD3.out)
  clear hw1 hf1 hc HW3 HF3 HD3 e3
  have e4 : V4.cell? ⟨W.heap.size, 4, none⟩ = some (.int .i64 z.stack) := by rw [Lib.cell_of_heap HD4.out]; rfl
  have hc := vr_num B b s4 [.int .i64 z.stack] (z.stack) V4 (show _ from rfl) HW4.out (by rw [HS5.out]; omega) (Nat.le_trans hB HF4.out.size)
  rw [HS5.out] at hc
  go_wp2_with (go_at_call 31; refine hc.mono ?_)
  first | rintro e V5 rfl hw1 hf1 | rintro e V5 ⟨rfl, hw1, hf1⟩
  have HW5 := Lib.hid hw1
  have HF5 := Lib.hid (HF4.out.trans hf1)
  have HD5 := Lib.hid ((hf1.oth _ _ _ _ HD4.out (by decide) (by decide)).trans HD4.out)
  clear hw1 hf1 hc HW4 HF4 HD4 e4
  have e5 : V5.cell? ⟨W.heap.size, 5, none⟩ = some (.slice a5 l5 c5) := by rw [Lib.cell_of_heap HD5.out]; rfl
  have hc := vmany_any l5 B b s5 (by omega) V5 (Nat.le_trans hB HF5.out.size) HW5.out
  rw [HQ5.out] at hc
  go_wp2_with (go_at_call 25; refine hc.mono ?_)
  first | rintro e U5 rfl hw1 hf1 | rintro e U5 ⟨rfl, hw1, hf1⟩
  have HWU := Lib.hid hw1
  have HFU := Lib.hid (HF5.out.trans hf1)
  have HDU := Lib.hid ((hf1.oth _ _ _ _ HD5.out (by decide) (by decide)).trans HD5.out)
  clear hw1 hf1 hc HW5 HF5 HD5 e5
  go_wp2_with fail
  go_loopw [4] (fun i wr => ∃ (k : Nat) (t : Wst), k ≤ l5 ∧ i = .int .i64 k ∧ VAt wr B b t ∧ Fr 70 5 B W wr ∧ wr.heap[W.heap.size]? = some (.cells #[.int .i64 z.cls, .string z.params, .string z.locals, .bool z.ret, .int .i64 z.stack, .slice a5 l5 c5] 61 (0, 0)) ∧ vGo dOp.v (z.ops.drop k) t = s6) (fun i _ => l5 - (intOf i).toNat)
  case atStart => exact ⟨0, _, Nat.zero_le _, rfl, HWU.out, HFU.out, HDU.out, by rw [List.drop_zero]; exact HS6.out⟩
  case round =>
    clear HWU HFU HDU
    obtain ⟨k, t, hk, rfl, hw, hf, hd, hgo⟩ := hrel
    have HGO := Lib.hid hgo
    have HW := Lib.hid hw
    have HFR := Lib.hid hf
    have HD := Lib.hid hd
    clear hw hf hgo hd
    have ed : wr.cell? ⟨W.heap.size, 5, none⟩ = some (.slice a5 l5 c5) := by rw [Lib.cell_of_heap HD.out]; rfl
    by_cases hlt : k < l5
    · obtain ⟨bb, o, x, vs', hae, hbb, hx, hC, hI⟩ := (kept_row7 HR5.out HFR.out).item hlt
      rw [hae] at ed
      have HAE := Lib.hid hae
      clear hae
      have hlm := row_max HR5.out
      have i0 : (k : Int) < (l5 : Int) := by omega
      have i1 : (0 : Int) ≤ (k : Int) := by omega
      obtain rfl := op_is.1 hI
      have HX := Lib.hid hx
      have HBB := Lib.hid hbb
      have HC := Lib.hid hC
      clear hC hx hbb hI
      obtain ⟨r1, hr1⟩ : ∃ r, dNum.v x.k t = r := ⟨_, rfl⟩
      have hm1 : t.bs.length ≤ r1.bs.length := by rw [← hr1]; exact dNum.mono _ _
      have HS1 := Lib.hid hr1
      obtain ⟨r2, hr2⟩ : ∃ r, dNum.v x.a r1 = r := ⟨_, rfl⟩
      have hm2 : r1.bs.length ≤ r2.bs.length := by rw [← hr2]; exact dNum.mono _ _
      have HS2 := Lib.hid hr2
      obtain ⟨r3, hr3⟩ : ∃ r, dNum.v x.b r2 = r := ⟨_, rfl⟩
      have hm3 : r2.bs.length ≤ r3.bs.length := by rw [← hr3]; exact dNum.mono _ _
      have HS3 := Lib.hid hr3
      have hlast : r3.bs.length ≤ s6.bs.length := by
        have h9 := HGO.out
        rw [vGo_next HX.out, show dOp.v x t = r3 from by rw [← HS3.out]; rw [← HS2.out]; rw [← HS1.out] <;> rfl] at h9
        rw [← h9]
        exact vGo_mono dOp _ _
      clear hr1 hr2 hr3
      have ee : wr.cell? ⟨bb, o + k * 3, none⟩ = some (.int .i64 x.k) := (HC.out.keep ((Fr.refl 70 5 B wr).below.block bb HBB.out)) 0 _ rfl
      have hc := vr_num B b t [.int .i64 x.k] (x.k) wr (show _ from rfl) HW.out (by rw [HS1.out]; omega) (Nat.le_trans hB (Nat.le_trans HFR.out.size (Fr.refl 70 5 B wr).size))
      rw [HS1.out] at hc
      go_wp2_with (go_at_call 31; refine hc.mono ?_)
      first | rintro e Y1 rfl hw2 hf2 | rintro e Y1 ⟨rfl, hw2, hf2⟩
      have HV1 := Lib.hid hw2
      have HK1 := Lib.hid ((Fr.refl 70 5 B wr).trans hf2)
      clear hw2 hf2 hc ee ed
      have ee : Y1.cell? ⟨bb, o + k * 3 + 1, none⟩ = some (.int .i64 x.a) := (HC.out.keep (HK1.out.below.block bb HBB.out)) 1 _ rfl
      have ed : Y1.cell? ⟨W.heap.size, 5, none⟩ = some (.slice a5 l5 c5) := by rw [Lib.cell_of_heap ((HK1.out.oth _ _ _ _ HD.out (by decide) (by decide)).trans HD.out)]; rfl
      rw [HAE.out] at ed
      have hc := vr_num B b r1 [.int .i64 x.a] (x.a) Y1 (show _ from rfl) HV1.out (by rw [HS2.out]; omega) (Nat.le_trans hB (Nat.le_trans HFR.out.size HK1.out.size))
      rw [HS2.out] at hc
      go_wp2_with (go_at_call 31; refine hc.mono ?_)
      first | rintro e Y2 rfl hw2 hf2 | rintro e Y2 ⟨rfl, hw2, hf2⟩
      have HV2 := Lib.hid hw2
      have HK2 := Lib.hid (HK1.out.trans hf2)
      clear hw2 hf2 hc ee ed
      have ee : Y2.cell? ⟨bb, o + k * 3 + 2, none⟩ = some (.int .i64 x.b) := (HC.out.keep (HK2.out.below.block bb HBB.out)) 2 _ rfl
      have ed : Y2.cell? ⟨W.heap.size, 5, none⟩ = some (.slice a5 l5 c5) := by rw [Lib.cell_of_heap ((HK2.out.oth _ _ _ _ HD.out (by decide) (by decide)).trans HD.out)]; rfl
      rw [HAE.out] at ed
      have hc := vr_num B b r2 [.int .i64 x.b] (x.b) Y2 (show _ from rfl) HV2.out (by rw [HS3.out]; omega) (Nat.le_trans hB (Nat.le_trans HFR.out.size HK2.out.size))
      rw [HS3.out] at hc
      go_wp2_with (go_at_call 31; refine hc.mono ?_)
      first | rintro e Y3 rfl hw2 hf2 | rintro e Y3 ⟨rfl, hw2, hf2⟩
      have HV3 := Lib.hid hw2
      have HK3 := Lib.hid (HK2.out.trans hf2)
      clear hw2 hf2 hc ee ed
      have HNX := Lib.hid (show dOp.v x t = r3 from by rw [← HS3.out]; rw [← HS2.out]; rw [← HS1.out] <;> rfl)
      go_wp2_with fail
      refine ⟨⟨k + 1, r3, by omega, by go_num, HV3.out, HFR.out.trans HK3.out, (HK3.out.oth _ _ _ _ HD.out (by decide) (by decide)).trans HD.out, ?_⟩, by simp [intOf]; omega⟩
      rw [← HGO.out, vGo_next HX.out, HNX.out]
    · obtain rfl : l5 = k := by omega
      have HEND := Lib.hid (show s6 = t by rw [← HGO.out, List.drop_of_length_le (by rw [HR5.out.1]; exact Nat.le_refl _)]; rfl)
      obtain rfl := HEND.out
      obtain ⟨V6, hV⟩ : ∃ V, V = wr := ⟨_, rfl⟩
      rw [← hV] at HW HFR HD ed ⊢
      have HW6 := HW
      have HF6 := HFR
      have HD6 := HD
      clear HW HFR HD hV HEND HGO hlt
      go_wp2_with fail
      go_returns
      exact ⟨rfl, HW6.out, HF6.out⟩
end Go.Proofs.YtoaohoeghlidaaaGreatDoor
