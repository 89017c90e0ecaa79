/-
  The document's Lay.
-/
import Derived.Test.YtoaohoeghlidaaaGreatDoorVParts
import Derived.Test.YtoaohoeghlidaaaGreatDoorLay
namespace Go.Proofs.YtoaohoeghlidaaaGreatDoor
open Go.ChangeShapes Go.WideShapes Go.ChangeAt Go.RowKit
/-- what the document's Lay answers -/
def LaidDoc (W' : World) (lo : Nat) (s : Wst) (e : Ending) : Prop :=
  (s.full = true ∧ e = .returned (.tuple #[.slice none 0 0, .int .i64 24]))
  ∨ (s.full = false ∧ ∃ g cap, e = .returned (.tuple #[.slice (some ⟨g, 0, none⟩) s.bs.length cap, .int .i64 0]) ∧ W'.ownsRow lo 5 1 (.slice (some ⟨g, 0, none⟩) s.bs.length cap) s.bs.length (byteCells s.bs))

set_option maxHeartbeats 16000000 in
set_option maxRecDepth 100000 in
theorem vlay_any (W : World) (vs : List Value) (z : ImgD) (hI : shImg.Is (fun k => k < W.heap.size) W vs z) (hs : (layDoc z).bs.length ≤ 100000000000000) :
    Calls Tryz.prog 10 #[.agg vs.toArray] W fun e W' => LaidDoc W' W.heap.size (layDoc z) e ∧ Below W.heap.size W W' := by
  obtain ⟨a0, l0, c0, a1, l1, c1, a2, l2, c2, a3, l3, c3, a5, l5, c5, a6, l6, c6, a7, l7, c7, a8, l8, c8, a9, l9, c9, rfl, h0, h1, h2, h3, h5, h6, h7, h8, h9⟩ := img_is.1 hI
  obtain ⟨s, hs0⟩ : ∃ s, vText magic ⟨[], false⟩ = s := ⟨_, rfl⟩
  have hml : s.bs.length = 9 := by rw [← hs0]; rfl
  have hB : W.heap.size ≤ W.heap.size := Nat.le_refl _
  obtain ⟨q0, hq0⟩ : ∃ r, vMany l0 s = r := ⟨_, rfl⟩
  have hmq0 : s.bs.length + 4 = q0.bs.length := by rw [← hq0]; exact (many_len _ _).symm
  obtain ⟨s1, hs1⟩ : ∃ r, vGo (dList dText).v z.faces q0 = r := ⟨_, rfl⟩
  have hms1 : q0.bs.length ≤ s1.bs.length := by rw [← hs1]; exact vGo_mono (dList dText) _ _
  obtain ⟨q1, hq1⟩ : ∃ r, vMany l1 s1 = r := ⟨_, rfl⟩
  have hmq1 : s1.bs.length + 4 = q1.bs.length := by rw [← hq1]; exact (many_len _ _).symm
  obtain ⟨s2, hs2⟩ : ∃ r, vGo dDesc.v z.classes q1 = r := ⟨_, rfl⟩
  have hms2 : q1.bs.length ≤ s2.bs.length := by rw [← hs2]; exact vGo_mono dDesc _ _
  obtain ⟨q2, hq2⟩ : ∃ r, vMany l2 s2 = r := ⟨_, rfl⟩
  have hmq2 : s2.bs.length + 4 = q2.bs.length := by rw [← hq2]; exact (many_len _ _).symm
  obtain ⟨s3, hs3⟩ : ∃ r, vGo dCode.v z.codes q2 = r := ⟨_, rfl⟩
  have hms3 : q2.bs.length ≤ s3.bs.length := by rw [← hs3]; exact vGo_mono dCode _ _
  obtain ⟨s4, hs4⟩ : ∃ r, (dList dNum).v z.insts s3 = r := ⟨_, rfl⟩
  have hms4 : s3.bs.length ≤ s4.bs.length := by rw [← hs4]; exact (dList dNum).mono _ _
  obtain ⟨s5, hs5⟩ : ∃ r, dText.v z.globals s4 = r := ⟨_, rfl⟩
  have hms5 : s4.bs.length ≤ s5.bs.length := by rw [← hs5]; exact dText.mono _ _
  obtain ⟨s6, hs6⟩ : ∃ r, (dList dNum).v z.init s5 = r := ⟨_, rfl⟩
  have hms6 : s5.bs.length ≤ s6.bs.length := by rw [← hs6]; exact (dList dNum).mono _ _
  obtain ⟨s7, hs7⟩ : ∃ r, (dList dNum).v z.blocks s6 = r := ⟨_, rfl⟩
  have hms7 : s6.bs.length ≤ s7.bs.length := by rw [← hs7]; exact (dList dNum).mono _ _
  obtain ⟨s8, hs8⟩ : ∃ r, (dList dLink).v z.ins s7 = r := ⟨_, rfl⟩
  have hms8 : s7.bs.length ≤ s8.bs.length := by rw [← hs8]; exact (dList dLink).mono _ _
  obtain ⟨s9, hs9⟩ : ∃ r, (dList dLink).v z.outs s8 = r := ⟨_, rfl⟩
  have hms9 : s8.bs.length ≤ s9.bs.length := by rw [← hs9]; exact (dList dLink).mono _ _
  obtain ⟨q9, hq9⟩ : ∃ r, vMany l9 s9 = r := ⟨_, rfl⟩
  have hmq9 : s9.bs.length + 4 = q9.bs.length := by rw [← hq9]; exact (many_len _ _).symm
  obtain ⟨s10, hs10⟩ : ∃ r, vGo dJob.v z.jobs q9 = r := ⟨_, rfl⟩
  have hms10 : q9.bs.length ≤ s10.bs.length := by rw [← hs10]; exact vGo_mono dJob _ _
  obtain ⟨s11, hs11⟩ : ∃ r, dNum.v z.d s10 = r := ⟨_, rfl⟩
  have hms11 : s10.bs.length ≤ s11.bs.length := by rw [← hs11]; exact dNum.mono _ _
  obtain ⟨s12, hs12⟩ : ∃ r, dNum.v z.w s11 = r := ⟨_, rfl⟩
  have hms12 : s11.bs.length ≤ s12.bs.length := by rw [← hs12]; exact dNum.mono _ _
  have hv : layDoc z = s12 := by rw [← hs12, ← hs11, ← hs10, ← hq9, ← h9.1, ← hs9, ← hs8, ← hs7, ← hs6, ← hs5, ← hs4, ← hs3, ← hq2, ← h2.1, ← hs2, ← hq1, ← h1.1, ← hs1, ← hq0, ← h0.1, ← hs0]; rfl
  rw [hv] at hs ⊢
  have HS1 := Lib.hid hs1
  have HQ0 := Lib.hid hq0
  have HS2 := Lib.hid hs2
  have HQ1 := Lib.hid hq1
  have HS3 := Lib.hid hs3
  have HQ2 := Lib.hid hq2
  have HS4 := Lib.hid hs4
  have HS5 := Lib.hid hs5
  have HS6 := Lib.hid hs6
  have HS7 := Lib.hid hs7
  have HS8 := Lib.hid hs8
  have HS9 := Lib.hid hs9
  have HS10 := Lib.hid hs10
  have HQ9 := Lib.hid hq9
  have HS11 := Lib.hid hs11
  have HS12 := Lib.hid hs12
  have HR0 := Lib.hid h0
  have HR1 := Lib.hid h1
  have HR2 := Lib.hid h2
  have HR3 := Lib.hid h3
  have HR5 := Lib.hid h5
  have HR6 := Lib.hid h6
  have HR7 := Lib.hid h7
  have HR8 := Lib.hid h8
  have HR9 := Lib.hid h9
  have hX0 : (W.alloc (.cells #[.slice a0 l0 c0, .slice a1 l1 c1, .slice a2 l2 c2, .slice a3 l3 c3, .string z.globals, .slice a5 l5 c5, .slice a6 l6 c6, .slice a7 l7 c7, .slice a8 l8 c8, .slice a9 l9 c9, .int .i64 z.d, .int .i64 z.w] 29)).heap[W.heap.size]? = some (.cells #[.slice a0 l0 c0, .slice a1 l1 c1, .slice a2 l2 c2, .slice a3 l3 c3, .string z.globals, .slice a5 l5 c5, .slice a6 l6 c6, .slice a7 l7 c7, .slice a8 l8 c8, .slice a9 l9 c9, .int .i64 z.d, .int .i64 z.w] 29 (0, 0)) := heap_alloc_new W _
  have hsV : (W.alloc (.cells #[.slice a0 l0 c0, .slice a1 l1 c1, .slice a2 l2 c2, .slice a3 l3 c3, .string z.globals, .slice a5 l5 c5, .slice a6 l6 c6, .slice a7 l7 c7, .slice a8 l8 c8, .slice a9 l9 c9, .int .i64 z.d, .int .i64 z.w] 29)).heap.size = W.heap.size + 1 := by simp
  have HF00 := Lib.hid (((Fr.refl 70 5 W.heap.size W).alloc (Nat.le_refl _) (.cells #[.slice a0 l0 c0, .slice a1 l1 c1, .slice a2 l2 c2, .slice a3 l3 c3, .string z.globals, .slice a5 l5 c5, .slice a6 l6 c6, .slice a7 l7 c7, .slice a8 l8 c8, .slice a9 l9 c9, .int .i64 z.d, .int .i64 z.w] 29)).alloc (by simp) (.cells #[.slice none 0 0, .bool false] 70))
  have HD00 := Lib.hid ((Below.heap_alloc (W.alloc (.cells #[.slice a0 l0 c0, .slice a1 l1 c1, .slice a2 l2 c2, .slice a3 l3 c3, .string z.globals, .slice a5 l5 c5, .slice a6 l6 c6, .slice a7 l7 c7, .slice a8 l8 c8, .slice a9 l9 c9, .int .i64 z.d, .int .i64 z.w] 29)) (.cells #[.slice none 0 0, .bool false] 70) W.heap.size (by simp)).trans hX0)
  have hw : VAt ((W.alloc (.cells #[.slice a0 l0 c0, .slice a1 l1 c1, .slice a2 l2 c2, .slice a3 l3 c3, .string z.globals, .slice a5 l5 c5, .slice a6 l6 c6, .slice a7 l7 c7, .slice a8 l8 c8, .slice a9 l9 c9, .int .i64 z.d, .int .i64 z.w] 29)).alloc (.cells #[.slice none 0 0, .bool false] 70)) W.heap.size (W.heap.size + 1) ⟨[], false⟩ := ⟨by omega, .slice none 0 0, by have := heap_alloc_new (W.alloc (.cells #[.slice a0 l0 c0, .slice a1 l1 c1, .slice a2 l2 c2, .slice a3 l3 c3, .string z.globals, .slice a5 l5 c5, .slice a6 l6 c6, .slice a7 l7 c7, .slice a8 l8 c8, .slice a9 l9 c9, .int .i64 z.d, .int .i64 z.w] 29)) (.cells #[.slice none 0 0, .bool false] 70); rw [hsV] at this; exact this, World.ownsRow_nil _ _ _ _⟩
  have hc := vtext_any magic W.heap.size (W.heap.size + 1) ⟨[], false⟩ (by rw [hs0]; omega) ((W.alloc (.cells #[.slice a0 l0 c0, .slice a1 l1 c1, .slice a2 l2 c2, .slice a3 l3 c3, .string z.globals, .slice a5 l5 c5, .slice a6 l6 c6, .slice a7 l7 c7, .slice a8 l8 c8, .slice a9 l9 c9, .int .i64 z.d, .int .i64 z.w] 29)).alloc (.cells #[.slice none 0 0, .bool false] 70)) (by simp; omega) hw
  rw [hs0] at hc
  clear hw hX0 hsV hI hv hs0 hs1 hs2 hs3 hs4 hs5 hs6 hs7 hs8 hs9 hs10 hs11 hs12 hq0 hq1 hq2 hq9 h0 h1 h2 h3 h5 h6 h7 h8 h9
  show Calls Tryz.prog 10 #[.agg #[.slice a0 l0 c0, .slice a1 l1 c1, .slice a2 l2 c2, .slice a3 l3 c3, .string z.globals, .slice a5 l5 c5, .slice a6 l6 c6, .slice a7 l7 c7, .slice a8 l8 c8, .slice a9 l9 c9, .int .i64 z.d, .int .i64 z.w]] W _
  go_enter Tryz.func10, Tryz.ntmps10
  go_wp2_with (go_at_call 24; refine hc.mono ?_)
  first | rintro e V0 rfl hw1 hf1 | rintro e V0 ⟨rfl, hw1, hf1⟩
  have HW0 := Lib.hid hw1
  have HF0 := Lib.hid (HF00.out.trans hf1)
  have HD0 := Lib.hid ((hf1.oth _ _ _ _ HD00.out (by decide) (by decide)).trans HD00.out)
  clear hw1 hf1 hc HF00 HD00
  have e0 : V0.cell? ⟨W.heap.size, 0, none⟩ = some (.slice a0 l0 c0) := by rw [Lib.cell_of_heap HD0.out]; rfl
  have hc := vmany_any l0 W.heap.size (W.heap.size + 1) s (by omega) V0 (Nat.le_trans hB HF0.out.size) HW0.out
  rw [HQ0.out] at hc
  go_wp2_with (go_at_call 25; refine hc.mono ?_)
  first | rintro e U0 rfl hw1 hf1 | rintro e U0 ⟨rfl, hw1, hf1⟩
  have HWU := Lib.hid hw1
  have HFU := Lib.hid (HF0.out.trans hf1)
  have HDU := Lib.hid ((hf1.oth _ _ _ _ HD0.out (by decide) (by decide)).trans HD0.out)
  clear hw1 hf1 hc HW0 HF0 HD0 e0
  go_wp2_with fail
  go_loopw [5] (fun i wr => ∃ (k : Nat) (t : Wst), k ≤ l0 ∧ i = .int .i64 k ∧ VAt wr W.heap.size (W.heap.size + 1) t ∧ Fr 70 5 W.heap.size W wr ∧ wr.heap[W.heap.size]? = some (.cells #[.slice a0 l0 c0, .slice a1 l1 c1, .slice a2 l2 c2, .slice a3 l3 c3, .string z.globals, .slice a5 l5 c5, .slice a6 l6 c6, .slice a7 l7 c7, .slice a8 l8 c8, .slice a9 l9 c9, .int .i64 z.d, .int .i64 z.w] 29 (0, 0)) ∧ vGo (dList dText).v (z.faces.drop k) t = s1) (fun i _ => l0 - (intOf i).toNat)
  case atStart => exact ⟨0, _, Nat.zero_le _, rfl, HWU.out, HFU.out, HDU.out, by rw [List.drop_zero]; exact HS1.out⟩
  case round =>
    clear HWU HFU HDU
    obtain ⟨k, t, hk, rfl, hw, hf, hd, hgo⟩ := hrel
    have HGO := Lib.hid hgo
    have HW := Lib.hid hw
    have HFR := Lib.hid hf
    have HD := Lib.hid hd
    clear hw hf hgo hd
    have ed : wr.cell? ⟨W.heap.size, 0, none⟩ = some (.slice a0 l0 c0) := by rw [Lib.cell_of_heap HD.out]; rfl
    by_cases hlt : k < l0
    · obtain ⟨bb, o, x, vs', hae, hbb, hx, hC, hI⟩ := (kept_row7 HR0.out HFR.out).item hlt
      rw [hae] at ed
      have HAE := Lib.hid hae
      clear hae
      have hlm := row_max HR0.out
      have i0 : (k : Int) < (l0 : Int) := by omega
      have i1 : (0 : Int) ≤ (k : Int) := by omega
      obtain ⟨ta, tl, tc, rfl, hro⟩ := slice_is.1 hI
      have HRO := Lib.hid hro
      clear hro
      have HX := Lib.hid hx
      have HBB := Lib.hid hbb
      have HC := Lib.hid hC
      clear hC hx hbb hI
      obtain ⟨r1, hr1⟩ : ∃ r, (dList dText).v x t = r := ⟨_, rfl⟩
      have hm1 : t.bs.length ≤ r1.bs.length := by rw [← hr1]; exact (dList dText).mono _ _
      have HS1 := Lib.hid hr1
      have hlast : r1.bs.length ≤ s1.bs.length := by
        have h9 := HGO.out
        rw [vGo_next HX.out, show (dList dText).v x t = r1 from by rw [← HS1.out] <;> rfl] at h9
        rw [← h9]
        exact vGo_mono (dList dText) _ _
      clear hr1
      have ee : wr.cell? ⟨bb, o + k, none⟩ = some (.slice ta tl tc) := by
        have h9 := (HC.out.keep ((Fr.refl 70 5 W.heap.size wr).below.block bb HBB.out)) 0 _ rfl
        rw [show o + k * shTexts.n + 0 = o + k by show o + k * 1 + 0 = _; omega] at h9
        exact h9
      have hc := vr_texts W.heap.size (W.heap.size + 1) t [.slice ta tl tc] (x) wr (slice_is.2 ⟨_, _, _, rfl, kept_row7 HRO.out (Fr.refl 70 5 W.heap.size wr)⟩) HW.out (by rw [HS1.out]; omega) (Nat.le_trans hB (Nat.le_trans HFR.out.size (Fr.refl 70 5 W.heap.size wr).size))
      rw [HS1.out] at hc
      go_wp2_with (go_at_call 26; refine hc.mono ?_)
      first | rintro e Y1 rfl hw2 hf2 | rintro e Y1 ⟨rfl, hw2, hf2⟩
      have HV1 := Lib.hid hw2
      have HK1 := Lib.hid ((Fr.refl 70 5 W.heap.size wr).trans hf2)
      clear hw2 hf2 hc ee ed
      have HNX := Lib.hid (show (dList dText).v x t = r1 from by rw [← HS1.out] <;> rfl)
      go_wp2_with fail
      refine ⟨⟨k + 1, r1, by omega, by go_num, HV1.out, HFR.out.trans HK1.out, (HK1.out.oth _ _ _ _ HD.out (by decide) (by decide)).trans HD.out, ?_⟩, by simp [intOf]; omega⟩
      rw [← HGO.out, vGo_next HX.out, HNX.out]
    · obtain rfl : l0 = k := by omega
      have HEND := Lib.hid (show s1 = t by rw [← HGO.out, List.drop_of_length_le (by rw [HR0.out.1]; exact Nat.le_refl _)]; rfl)
      obtain rfl := HEND.out
      obtain ⟨V1, hV⟩ : ∃ V, V = wr := ⟨_, rfl⟩
      rw [← hV] at HW HFR HD ed ⊢
      have HW1 := HW
      have HF1 := HFR
      have HD1 := HD
      clear HW HFR HD hV HEND HGO hlt
      have e1 : V1.cell? ⟨W.heap.size, 1, none⟩ = some (.slice a1 l1 c1) := by rw [Lib.cell_of_heap HD1.out]; rfl
      have hc := vmany_any l1 W.heap.size (W.heap.size + 1) s1 (by omega) V1 (Nat.le_trans hB HF1.out.size) HW1.out
      rw [HQ1.out] at hc
      go_wp2_with (go_at_call 25; refine hc.mono ?_)
      first | rintro e U1 rfl hw1 hf1 | rintro e U1 ⟨rfl, hw1, hf1⟩
      have HWU := Lib.hid hw1
      have HFU := Lib.hid (HF1.out.trans hf1)
      have HDU := Lib.hid ((hf1.oth _ _ _ _ HD1.out (by decide) (by decide)).trans HD1.out)
      clear hw1 hf1 hc HW1 HF1 HD1 e1
      go_wp2_with fail
      go_loopw [6] (fun i wr => ∃ (k : Nat) (t : Wst), k ≤ l1 ∧ i = .int .i64 k ∧ VAt wr W.heap.size (W.heap.size + 1) t ∧ Fr 70 5 W.heap.size W wr ∧ wr.heap[W.heap.size]? = some (.cells #[.slice a0 l0 c0, .slice a1 l1 c1, .slice a2 l2 c2, .slice a3 l3 c3, .string z.globals, .slice a5 l5 c5, .slice a6 l6 c6, .slice a7 l7 c7, .slice a8 l8 c8, .slice a9 l9 c9, .int .i64 z.d, .int .i64 z.w] 29 (0, 0)) ∧ vGo dDesc.v (z.classes.drop k) t = s2) (fun i _ => l1 - (intOf i).toNat)
      case atStart => exact ⟨0, _, Nat.zero_le _, rfl, HWU.out, HFU.out, HDU.out, by rw [List.drop_zero]; exact HS2.out⟩
      case round =>
        clear HWU HFU HDU
        obtain ⟨k, t, hk, rfl, hw, hf, hd, hgo⟩ := hrel
        have HGO := Lib.hid hgo
        have HW := Lib.hid hw
        have HFR := Lib.hid hf
        have HD := Lib.hid hd
        clear hw hf hgo hd
        have ed : wr.cell? ⟨W.heap.size, 1, none⟩ = some (.slice a1 l1 c1) := by rw [Lib.cell_of_heap HD.out]; rfl
        by_cases hlt : k < l1
        · obtain ⟨bb, o, x, vs', hae, hbb, hx, hC, hI⟩ := (kept_row7 HR1.out HFR.out).item hlt
          rw [hae] at ed
          have HAE := Lib.hid hae
          clear hae
          have hlm := row_max HR1.out
          have i0 : (k : Int) < (l1 : Int) := by omega
          have i1 : (0 : Int) ≤ (k : Int) := by omega
          have HI := Lib.hid hI
          obtain ⟨za2, zl2, zc2, za3, zl3, zc3, za4, zl4, zc4, za5, zl5, zc5, rfl, -⟩ := desc_is.1 hI
          have HX := Lib.hid hx
          have HBB := Lib.hid hbb
          have HC := Lib.hid hC
          clear hC hx hbb hI
          obtain ⟨r1, hr1⟩ : ∃ r, dDesc.v x t = r := ⟨_, rfl⟩
          have HS1 := Lib.hid hr1
          have hlast : r1.bs.length ≤ s2.bs.length := by
            have h9 := HGO.out
            rw [vGo_next HX.out, HS1.out] at h9
            rw [← h9]
            exact vGo_mono dDesc _ _
          clear hr1
          have ee0 : wr.cell? ⟨bb, o + k * 6, none⟩ = some (.int .i64 x.base) := HC.out 0 _ rfl
          have ee1 : wr.cell? ⟨bb, o + k * 6 + 1, none⟩ = some (.string x.fields) := HC.out 1 _ rfl
          have ee2 : wr.cell? ⟨bb, o + k * 6 + 2, none⟩ = some (.slice za2 zl2 zc2) := HC.out 2 _ rfl
          have ee3 : wr.cell? ⟨bb, o + k * 6 + 3, none⟩ = some (.slice za3 zl3 zc3) := HC.out 3 _ rfl
          have ee4 : wr.cell? ⟨bb, o + k * 6 + 4, none⟩ = some (.slice za4 zl4 zc4) := HC.out 4 _ rfl
          have ee5 : wr.cell? ⟨bb, o + k * 6 + 5, none⟩ = some (.slice za5 zl5 zc5) := HC.out 5 _ rfl
          have hc := vr_desc W.heap.size (W.heap.size + 1) t [.int .i64 x.base, .string x.fields, .slice za2 zl2 zc2, .slice za3 zl3 zc3, .slice za4 zl4 zc4, .slice za5 zl5 zc5] x wr HI.out HW.out (by rw [HS1.out]; omega) (Nat.le_trans hB HFR.out.size)
          rw [HS1.out] at hc
          go_wp2_with (go_at_call 27; refine hc.mono ?_)
          first | rintro e Y1 rfl hw2 hf2 | rintro e Y1 ⟨rfl, hw2, hf2⟩
          have HV1 := Lib.hid hw2
          have HK1 := Lib.hid hf2
          clear hw2 hf2 hc ee0 ee1 ee2 ee3 ee4 ee5 ed
          have HNX := HS1
          go_wp2_with fail
          refine ⟨⟨k + 1, r1, by omega, by go_num, HV1.out, HFR.out.trans HK1.out, (HK1.out.oth _ _ _ _ HD.out (by decide) (by decide)).trans HD.out, ?_⟩, by simp [intOf]; omega⟩
          rw [← HGO.out, vGo_next HX.out, HNX.out]
        · obtain rfl : l1 = k := by omega
          have HEND := Lib.hid (show s2 = t by rw [← HGO.out, List.drop_of_length_le (by rw [HR1.out.1]; exact Nat.le_refl _)]; rfl)
          obtain rfl := HEND.out
          obtain ⟨V2, hV⟩ : ∃ V, V = wr := ⟨_, rfl⟩
          rw [← hV] at HW HFR HD ed ⊢
          have HW2 := HW
          have HF2 := HFR
          have HD2 := HD
          clear HW HFR HD hV HEND HGO hlt
          have e2 : V2.cell? ⟨W.heap.size, 2, none⟩ = some (.slice a2 l2 c2) := by rw [Lib.cell_of_heap HD2.out]; rfl
          have hc := vmany_any l2 W.heap.size (W.heap.size + 1) s2 (by omega) V2 (Nat.le_trans hB HF2.out.size) HW2.out
          rw [HQ2.out] at hc
          go_wp2_with (go_at_call 25; refine hc.mono ?_)
          first | rintro e U2 rfl hw1 hf1 | rintro e U2 ⟨rfl, hw1, hf1⟩
          have HWU := Lib.hid hw1
          have HFU := Lib.hid (HF2.out.trans hf1)
          have HDU := Lib.hid ((hf1.oth _ _ _ _ HD2.out (by decide) (by decide)).trans HD2.out)
          clear hw1 hf1 hc HW2 HF2 HD2 e2
          go_wp2_with fail
          go_loopw [7] (fun i wr => ∃ (k : Nat) (t : Wst), k ≤ l2 ∧ i = .int .i64 k ∧ VAt wr W.heap.size (W.heap.size + 1) t ∧ Fr 70 5 W.heap.size W wr ∧ wr.heap[W.heap.size]? = some (.cells #[.slice a0 l0 c0, .slice a1 l1 c1, .slice a2 l2 c2, .slice a3 l3 c3, .string z.globals, .slice a5 l5 c5, .slice a6 l6 c6, .slice a7 l7 c7, .slice a8 l8 c8, .slice a9 l9 c9, .int .i64 z.d, .int .i64 z.w] 29 (0, 0)) ∧ vGo dCode.v (z.codes.drop k) t = s3) (fun i _ => l2 - (intOf i).toNat)
          case atStart => exact ⟨0, _, Nat.zero_le _, rfl, HWU.out, HFU.out, HDU.out, by rw [List.drop_zero]; exact HS3.out⟩
          case round =>
            clear HWU HFU HDU
            obtain ⟨k, t, hk, rfl, hw, hf, hd, hgo⟩ := hrel
            have HGO := Lib.hid hgo
            have HW := Lib.hid hw
            have HFR := Lib.hid hf
            have HD := Lib.hid hd
            clear hw hf hgo hd
            have ed : wr.cell? ⟨W.heap.size, 2, none⟩ = some (.slice a2 l2 c2) := by rw [Lib.cell_of_heap HD.out]; rfl
            by_cases hlt : k < l2
            · obtain ⟨bb, o, x, vs', hae, hbb, hx, hC, hI⟩ := (kept_row7 HR2.out HFR.out).item hlt
              rw [hae] at ed
              have HAE := Lib.hid hae
              clear hae
              have hlm := row_max HR2.out
              have i0 : (k : Int) < (l2 : Int) := by omega
              have i1 : (0 : Int) ≤ (k : Int) := by omega
              have HI := Lib.hid hI
              obtain ⟨za5, zl5, zc5, rfl, -⟩ := code_is.1 hI
              have HX := Lib.hid hx
              have HBB := Lib.hid hbb
              have HC := Lib.hid hC
              clear hC hx hbb hI
              obtain ⟨r1, hr1⟩ : ∃ r, dCode.v x t = r := ⟨_, rfl⟩
              have HS1 := Lib.hid hr1
              have hlast : r1.bs.length ≤ s3.bs.length := by
                have h9 := HGO.out
                rw [vGo_next HX.out, HS1.out] at h9
                rw [← h9]
                exact vGo_mono dCode _ _
              clear hr1
              have ee0 : wr.cell? ⟨bb, o + k * 6, none⟩ = some (.int .i64 x.cls) := HC.out 0 _ rfl
              have ee1 : wr.cell? ⟨bb, o + k * 6 + 1, none⟩ = some (.string x.params) := HC.out 1 _ rfl
              have ee2 : wr.cell? ⟨bb, o + k * 6 + 2, none⟩ = some (.string x.locals) := HC.out 2 _ rfl
              have ee3 : wr.cell? ⟨bb, o + k * 6 + 3, none⟩ = some (.bool x.ret) := HC.out 3 _ rfl
              have ee4 : wr.cell? ⟨bb, o + k * 6 + 4, none⟩ = some (.int .i64 x.stack) := HC.out 4 _ rfl
              have ee5 : wr.cell? ⟨bb, o + k * 6 + 5, none⟩ = some (.slice za5 zl5 zc5) := HC.out 5 _ rfl
              have hc := vr_code W.heap.size (W.heap.size + 1) t [.int .i64 x.cls, .string x.params, .string x.locals, .bool x.ret, .int .i64 x.stack, .slice za5 zl5 zc5] x wr HI.out HW.out (by rw [HS1.out]; omega) (Nat.le_trans hB HFR.out.size)
              rw [HS1.out] at hc
              go_wp2_with (go_at_call 28; refine hc.mono ?_)
              first | rintro e Y1 rfl hw2 hf2 | rintro e Y1 ⟨rfl, hw2, hf2⟩
              have HV1 := Lib.hid hw2
              have HK1 := Lib.hid hf2
              clear hw2 hf2 hc ee0 ee1 ee2 ee3 ee4 ee5 ed
              have HNX := HS1
              go_wp2_with fail
              refine ⟨⟨k + 1, r1, by omega, by go_num, HV1.out, HFR.out.trans HK1.out, (HK1.out.oth _ _ _ _ HD.out (by decide) (by decide)).trans HD.out, ?_⟩, by simp [intOf]; omega⟩
              rw [← HGO.out, vGo_next HX.out, HNX.out]
            · obtain rfl : l2 = k := by omega
              have HEND := Lib.hid (show s3 = t by rw [← HGO.out, List.drop_of_length_le (by rw [HR2.out.1]; exact Nat.le_refl _)]; rfl)
              obtain rfl := HEND.out
              obtain ⟨V3, hV⟩ : ∃ V, V = wr := ⟨_, rfl⟩
              rw [← hV] at HW HFR HD ed ⊢
              have HW3 := HW
              have HF3 := HFR
              have HD3 := HD
              clear HW HFR HD hV HEND HGO hlt
              have e3 : V3.cell? ⟨W.heap.size, 3, none⟩ = some (.slice a3 l3 c3) := by rw [Lib.cell_of_heap HD3.out]; rfl
              have hc := vr_nums W.heap.size (W.heap.size + 1) s3 [.slice a3 l3 c3] (z.insts) V3 (slice_is.2 ⟨_, _, _, rfl, kept_row7 HR3.out HF3.out⟩) HW3.out (by rw [HS4.out]; omega) (Nat.le_trans hB HF3.out.size)
              rw [HS4.out] at hc
              go_wp2_with (go_at_call 29; refine hc.mono ?_)
              first | rintro e V4 rfl hw1 hf1 | rintro e V4 ⟨rfl, hw1, hf1⟩
              have HW4 := Lib.hid hw1
              have HF4 := Lib.hid (HF3.out.trans hf1)
              have HD4 := Lib.hid ((hf1.oth _ _ _ _ HD3.out (by decide) (by decide)).trans HD3.out)
              clear hw1 hf1 hc HW3 HF3 HD3 e3
              have e4 : V4.cell? ⟨W.heap.size, 4, none⟩ = some (.string z.globals) := by rw [Lib.cell_of_heap HD4.out]; rfl
              have hc := vr_text W.heap.size (W.heap.size + 1) s4 [.string z.globals] (z.globals) V4 (show _ from rfl) HW4.out (by rw [HS5.out]; omega) (Nat.le_trans hB HF4.out.size)
              rw [HS5.out] at hc
              go_wp2_with (go_at_call 24; refine hc.mono ?_)
              first | rintro e V5 rfl hw1 hf1 | rintro e V5 ⟨rfl, hw1, hf1⟩
              have HW5 := Lib.hid hw1
              have HF5 := Lib.hid (HF4.out.trans hf1)
              have HD5 := Lib.hid ((hf1.oth _ _ _ _ HD4.out (by decide) (by decide)).trans HD4.out)
              clear hw1 hf1 hc HW4 HF4 HD4 e4
              have e5 : V5.cell? ⟨W.heap.size, 5, none⟩ = some (.slice a5 l5 c5) := by rw [Lib.cell_of_heap HD5.out]; rfl
              have hc := vr_nums W.heap.size (W.heap.size + 1) s5 [.slice a5 l5 c5] (z.init) V5 (slice_is.2 ⟨_, _, _, rfl, kept_row7 HR5.out HF5.out⟩) HW5.out (by rw [HS6.out]; omega) (Nat.le_trans hB HF5.out.size)
              rw [HS6.out] at hc
              go_wp2_with (go_at_call 29; refine hc.mono ?_)
              first | rintro e V6 rfl hw1 hf1 | rintro e V6 ⟨rfl, hw1, hf1⟩
              have HW6 := Lib.hid hw1
              have HF6 := Lib.hid (HF5.out.trans hf1)
              have HD6 := Lib.hid ((hf1.oth _ _ _ _ HD5.out (by decide) (by decide)).trans HD5.out)
              clear hw1 hf1 hc HW5 HF5 HD5 e5
              have e6 : V6.cell? ⟨W.heap.size, 6, none⟩ = some (.slice a6 l6 c6) := by rw [Lib.cell_of_heap HD6.out]; rfl
              have hc := vr_nums W.heap.size (W.heap.size + 1) s6 [.slice a6 l6 c6] (z.blocks) V6 (slice_is.2 ⟨_, _, _, rfl, kept_row7 HR6.out HF6.out⟩) HW6.out (by rw [HS7.out]; omega) (Nat.le_trans hB HF6.out.size)
              rw [HS7.out] at hc
              go_wp2_with (go_at_call 29; refine hc.mono ?_)
              first | rintro e V7 rfl hw1 hf1 | rintro e V7 ⟨rfl, hw1, hf1⟩
              have HW7 := Lib.hid hw1
              have HF7 := Lib.hid (HF6.out.trans hf1)
              have HD7 := Lib.hid ((hf1.oth _ _ _ _ HD6.out (by decide) (by decide)).trans HD6.out)
              clear hw1 hf1 hc HW6 HF6 HD6 e6
              have e7 : V7.cell? ⟨W.heap.size, 7, none⟩ = some (.slice a7 l7 c7) := by rw [Lib.cell_of_heap HD7.out]; rfl
              have hc := vr_links W.heap.size (W.heap.size + 1) s7 [.slice a7 l7 c7] (z.ins) V7 (slice_is.2 ⟨_, _, _, rfl, kept_row7 HR7.out HF7.out⟩) HW7.out (by rw [HS8.out]; omega) (Nat.le_trans hB HF7.out.size)
              rw [HS8.out] at hc
              go_wp2_with (go_at_call 30; refine hc.mono ?_)
              first | rintro e V8 rfl hw1 hf1 | rintro e V8 ⟨rfl, hw1, hf1⟩
              have HW8 := Lib.hid hw1
              have HF8 := Lib.hid (HF7.out.trans hf1)
              have HD8 := Lib.hid ((hf1.oth _ _ _ _ HD7.out (by decide) (by decide)).trans HD7.out)
              clear hw1 hf1 hc HW7 HF7 HD7 e7
              have e8 : V8.cell? ⟨W.heap.size, 8, none⟩ = some (.slice a8 l8 c8) := by rw [Lib.cell_of_heap HD8.out]; rfl
              have hc := vr_links W.heap.size (W.heap.size + 1) s8 [.slice a8 l8 c8] (z.outs) V8 (slice_is.2 ⟨_, _, _, rfl, kept_row7 HR8.out HF8.out⟩) HW8.out (by rw [HS9.out]; omega) (Nat.le_trans hB HF8.out.size)
              rw [HS9.out] at hc
              go_wp2_with (go_at_call 30; refine hc.mono ?_)
              first | rintro e V9 rfl hw1 hf1 | rintro e V9 ⟨rfl, hw1, hf1⟩
              have HW9 := Lib.hid hw1
              have HF9 := Lib.hid (HF8.out.trans hf1)
              have HD9 := Lib.hid ((hf1.oth _ _ _ _ HD8.out (by decide) (by decide)).trans HD8.out)
              clear hw1 hf1 hc HW8 HF8 HD8 e8
              have e9 : V9.cell? ⟨W.heap.size, 9, none⟩ = some (.slice a9 l9 c9) := by rw [Lib.cell_of_heap HD9.out]; rfl
              have hc := vmany_any l9 W.heap.size (W.heap.size + 1) s9 (by omega) V9 (Nat.le_trans hB HF9.out.size) HW9.out
              rw [HQ9.out] at hc
              go_wp2_with (go_at_call 25; refine hc.mono ?_)
              first | rintro e U9 rfl hw1 hf1 | rintro e U9 ⟨rfl, hw1, hf1⟩
              have HWU := Lib.hid hw1
              have HFU := Lib.hid (HF9.out.trans hf1)
              have HDU := Lib.hid ((hf1.oth _ _ _ _ HD9.out (by decide) (by decide)).trans HD9.out)
              clear hw1 hf1 hc HW9 HF9 HD9 e9
              go_wp2_with fail
              go_loopw [8] (fun i wr => ∃ (k : Nat) (t : Wst), k ≤ l9 ∧ i = .int .i64 k ∧ VAt wr W.heap.size (W.heap.size + 1) t ∧ Fr 70 5 W.heap.size W wr ∧ wr.heap[W.heap.size]? = some (.cells #[.slice a0 l0 c0, .slice a1 l1 c1, .slice a2 l2 c2, .slice a3 l3 c3, .string z.globals, .slice a5 l5 c5, .slice a6 l6 c6, .slice a7 l7 c7, .slice a8 l8 c8, .slice a9 l9 c9, .int .i64 z.d, .int .i64 z.w] 29 (0, 0)) ∧ vGo dJob.v (z.jobs.drop k) t = s10) (fun i _ => l9 - (intOf i).toNat)
              case atStart => exact ⟨0, _, Nat.zero_le _, rfl, HWU.out, HFU.out, HDU.out, by rw [List.drop_zero]; exact HS10.out⟩
              case round =>
                clear HWU HFU HDU
                obtain ⟨k, t, hk, rfl, hw, hf, hd, hgo⟩ := hrel
                have HGO := Lib.hid hgo
                have HW := Lib.hid hw
                have HFR := Lib.hid hf
                have HD := Lib.hid hd
                clear hw hf hgo hd
                have ed : wr.cell? ⟨W.heap.size, 9, none⟩ = some (.slice a9 l9 c9) := by rw [Lib.cell_of_heap HD.out]; rfl
                by_cases hlt : k < l9
                · obtain ⟨bb, o, x, vs', hae, hbb, hx, hC, hI⟩ := (kept_row7 HR9.out HFR.out).item hlt
                  rw [hae] at ed
                  have HAE := Lib.hid hae
                  clear hae
                  have hlm := row_max HR9.out
                  have i0 : (k : Int) < (l9 : Int) := by omega
                  have i1 : (0 : Int) ≤ (k : Int) := by omega
                  obtain rfl := job_is.1 hI
                  have HX := Lib.hid hx
                  have HBB := Lib.hid hbb
                  have HC := Lib.hid hC
                  clear hC hx hbb hI
                  obtain ⟨r1, hr1⟩ : ∃ r, dNum.v x.c t = r := ⟨_, rfl⟩
                  have hm1 : t.bs.length ≤ r1.bs.length := by rw [← hr1]; exact dNum.mono _ _
                  have HS1 := Lib.hid hr1
                  obtain ⟨r2, hr2⟩ : ∃ r, dNum.v x.e r1 = r := ⟨_, rfl⟩
                  have hm2 : r1.bs.length ≤ r2.bs.length := by rw [← hr2]; exact dNum.mono _ _
                  have HS2 := Lib.hid hr2
                  obtain ⟨r3, hr3⟩ : ∃ r, dNum.v x.f r2 = r := ⟨_, rfl⟩
                  have hm3 : r2.bs.length ≤ r3.bs.length := by rw [← hr3]; exact dNum.mono _ _
                  have HS3 := Lib.hid hr3
                  have hlast : r3.bs.length ≤ s10.bs.length := by
                    have h9 := HGO.out
                    rw [vGo_next HX.out, show dJob.v x t = r3 from by rw [← HS3.out]; rw [← HS2.out]; rw [← HS1.out] <;> rfl] at h9
                    rw [← h9]
                    exact vGo_mono dJob _ _
                  clear hr1 hr2 hr3
                  have ee : wr.cell? ⟨bb, o + k * 3, none⟩ = some (.int .i64 x.c) := (HC.out.keep ((Fr.refl 70 5 W.heap.size wr).below.block bb HBB.out)) 0 _ rfl
                  have hc := vr_num W.heap.size (W.heap.size + 1) t [.int .i64 x.c] (x.c) wr (show _ from rfl) HW.out (by rw [HS1.out]; omega) (Nat.le_trans hB (Nat.le_trans HFR.out.size (Fr.refl 70 5 W.heap.size wr).size))
                  rw [HS1.out] at hc
                  go_wp2_with (go_at_call 31; refine hc.mono ?_)
                  first | rintro e Y1 rfl hw2 hf2 | rintro e Y1 ⟨rfl, hw2, hf2⟩
                  have HV1 := Lib.hid hw2
                  have HK1 := Lib.hid ((Fr.refl 70 5 W.heap.size wr).trans hf2)
                  clear hw2 hf2 hc ee ed
                  have ee : Y1.cell? ⟨bb, o + k * 3 + 1, none⟩ = some (.int .i64 x.e) := (HC.out.keep (HK1.out.below.block bb HBB.out)) 1 _ rfl
                  have ed : Y1.cell? ⟨W.heap.size, 9, none⟩ = some (.slice a9 l9 c9) := by rw [Lib.cell_of_heap ((HK1.out.oth _ _ _ _ HD.out (by decide) (by decide)).trans HD.out)]; rfl
                  rw [HAE.out] at ed
                  have hc := vr_num W.heap.size (W.heap.size + 1) r1 [.int .i64 x.e] (x.e) Y1 (show _ from rfl) HV1.out (by rw [HS2.out]; omega) (Nat.le_trans hB (Nat.le_trans HFR.out.size HK1.out.size))
                  rw [HS2.out] at hc
                  go_wp2_with (go_at_call 31; refine hc.mono ?_)
                  first | rintro e Y2 rfl hw2 hf2 | rintro e Y2 ⟨rfl, hw2, hf2⟩
                  have HV2 := Lib.hid hw2
                  have HK2 := Lib.hid (HK1.out.trans hf2)
                  clear hw2 hf2 hc ee ed
                  have ee : Y2.cell? ⟨bb, o + k * 3 + 2, none⟩ = some (.int .i64 x.f) := (HC.out.keep (HK2.out.below.block bb HBB.out)) 2 _ rfl
                  have ed : Y2.cell? ⟨W.heap.size, 9, none⟩ = some (.slice a9 l9 c9) := by rw [Lib.cell_of_heap ((HK2.out.oth _ _ _ _ HD.out (by decide) (by decide)).trans HD.out)]; rfl
                  rw [HAE.out] at ed
                  have hc := vr_num W.heap.size (W.heap.size + 1) r2 [.int .i64 x.f] (x.f) Y2 (show _ from rfl) HV2.out (by rw [HS3.out]; omega) (Nat.le_trans hB (Nat.le_trans HFR.out.size HK2.out.size))
                  rw [HS3.out] at hc
                  go_wp2_with (go_at_call 31; refine hc.mono ?_)
                  first | rintro e Y3 rfl hw2 hf2 | rintro e Y3 ⟨rfl, hw2, hf2⟩
                  have HV3 := Lib.hid hw2
                  have HK3 := Lib.hid (HK2.out.trans hf2)
                  clear hw2 hf2 hc ee ed
                  have HNX := Lib.hid (show dJob.v x t = r3 from by rw [← HS3.out]; rw [← HS2.out]; rw [← HS1.out] <;> rfl)
                  go_wp2_with fail
                  refine ⟨⟨k + 1, r3, by omega, by go_num, HV3.out, HFR.out.trans HK3.out, (HK3.out.oth _ _ _ _ HD.out (by decide) (by decide)).trans HD.out, ?_⟩, by simp [intOf]; omega⟩
                  rw [← HGO.out, vGo_next HX.out, HNX.out]
                · obtain rfl : l9 = k := by omega
                  have HEND := Lib.hid (show s10 = t by rw [← HGO.out, List.drop_of_length_le (by rw [HR9.out.1]; exact Nat.le_refl _)]; rfl)
                  obtain rfl := HEND.out
                  obtain ⟨V10, hV⟩ : ∃ V, V = wr := ⟨_, rfl⟩
                  rw [← hV] at HW HFR HD ed ⊢
                  have HW10 := HW
                  have HF10 := HFR
                  have HD10 := HD
                  clear HW HFR HD hV HEND HGO hlt
                  have e10 : V10.cell? ⟨W.heap.size, 10, none⟩ = some (.int .i64 z.d) := by rw [Lib.cell_of_heap HD10.out]; rfl
                  have hc := vr_num W.heap.size (W.heap.size + 1) s10 [.int .i64 z.d] (z.d) V10 (show _ from rfl) HW10.out (by rw [HS11.out]; omega) (Nat.le_trans hB HF10.out.size)
                  rw [HS11.out] at hc
                  go_wp2_with (go_at_call 31; refine hc.mono ?_)
                  first | rintro e V11 rfl hw1 hf1 | rintro e V11 ⟨rfl, hw1, hf1⟩
                  have HW11 := Lib.hid hw1
                  have HF11 := Lib.hid (HF10.out.trans hf1)
                  have HD11 := Lib.hid ((hf1.oth _ _ _ _ HD10.out (by decide) (by decide)).trans HD10.out)
                  clear hw1 hf1 hc HW10 HF10 HD10 e10
                  have e11 : V11.cell? ⟨W.heap.size, 11, none⟩ = some (.int .i64 z.w) := by rw [Lib.cell_of_heap HD11.out]; rfl
                  have hc := vr_num W.heap.size (W.heap.size + 1) s11 [.int .i64 z.w] (z.w) V11 (show _ from rfl) HW11.out (by rw [HS12.out]; omega) (Nat.le_trans hB HF11.out.size)
                  rw [HS12.out] at hc
                  go_wp2_with (go_at_call 31; refine hc.mono ?_)
                  first | rintro e V12 rfl hw1 hf1 | rintro e V12 ⟨rfl, hw1, hf1⟩
                  have HW12 := Lib.hid hw1
                  have HF12 := Lib.hid (HF11.out.trans hf1)
                  have HD12 := Lib.hid ((hf1.oth _ _ _ _ HD11.out (by decide) (by decide)).trans HD11.out)
                  clear hw1 hf1 hc HW11 HF11 HD11 e11
                  obtain ⟨c1x, f0x, f1x⟩ := HW12.out.cells
                  cases hfull : s12.full with
                  | true =>
                    rw [hfull] at c1x
                    have HFL := Lib.hid hfull
                    clear hfull
                    go_wp2_with fail
                    go_returns
                    exact ⟨.inl ⟨HFL.out, rfl⟩, HF12.out.below⟩
                  | false =>
                    rw [hfull] at c1x
                    have HFL := Lib.hid hfull
                    obtain ⟨_, v, hbox, hown⟩ := HW12.out
                    obtain ⟨g, cap, rfl⟩ := Joins.ownsRow_form hown (by omega)
                    have c0x : V12.cell? ⟨(W.heap.size + 1), 0, none⟩ = some (.slice (some ⟨g, 0, none⟩) s12.bs.length cap) := by rw [Lib.cell_of_heap hbox]; rfl
                    have HO := Lib.hid hown
                    clear hfull hbox hown
                    go_wp2_with fail
                    go_returns
                    exact ⟨.inr ⟨HFL.out, g, cap, rfl, HO.out⟩, HF12.out.below⟩
end Go.Proofs.YtoaohoeghlidaaaGreatDoor
