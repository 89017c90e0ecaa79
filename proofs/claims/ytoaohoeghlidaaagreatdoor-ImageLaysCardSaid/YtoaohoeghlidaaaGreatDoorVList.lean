/-
  The document's writer: lists.
-/
import Derived.Test.YtoaohoeghlidaaaGreatDoorVWrite
import Derived.Test.YtoaohoeghlidaaaGreatDoorWParts
namespace Go.Proofs.YtoaohoeghlidaaaGreatDoor
open Go.ChangeShapes Go.WideShapes Go.ChangeAt Go.RowKit

theorem row_max {T : Type} {sh : Sh T} {S : Nat → Prop} {W : World} {a l} {xs : List T} (h : Row sh S W a l xs) : l ≤ 9223372036854775807 := by
  rcases Nat.eq_zero_or_pos l with rfl | hp
  · exact Nat.zero_le _
  · obtain ⟨hm, _⟩ := h.2 hp
    unfold maxLen at hm
    omega
theorem kept_row7 {T : Type} {sh : Sh T} {B : Nat} {W W' : World} {a l} {xs : List T} (h : Row sh (fun k => k < B) W a l xs) (hf : Fr 70 5 B W W') : Row sh (fun k => k < B) W' a l xs := h.keep (fun k hk => hf.below.block k hk)
theorem vGo_next {T : Type} {one : T → Wst → Wst} {xs : List T} {k : Nat} {x : T} {s : Wst} (hx : xs[k]? = some x) : vGo one (xs.drop k) s = vGo one (xs.drop (k + 1)) (one x s) := by
  have hk : k < xs.length := (List.getElem?_eq_some_iff.1 hx).1
  rw [List.drop_eq_getElem_cons hk]
  have : xs[k] = x := by rw [List.getElem?_eq_getElem hk] at hx; exact Option.some.inj hx
  rw [this]
  rfl
/-- a function of the document that writes one -/
def Vr (f : Nat) (mk : List Value → Value) {T : Type} {c : Codec T} (sh : Sh T) (d : Doc c) : Prop :=
  ∀ (B b : Nat) (s : Wst) (vs : List Value) (x : T) (W : World), sh.Is (fun k => k < B) W vs x → VAt W B b s → (d.v x s).bs.length ≤ 100000000000000 → B ≤ W.heap.size →
    Calls Tryz.prog f #[.pointer (some ⟨b, 0, none⟩), mk vs] W fun e W' => e = .returned (.tuple #[]) ∧ VAt W' B b (d.v x s) ∧ Fr 70 5 B W W'
theorem vr_num : Vr 31 mk1 shInt dNum := by
  intro B b s vs x W hI h hs hB
  obtain rfl : vs = [.int .i64 x] := hI
  exact vnum_any x B b s (by have : (vNum x s).bs.length = s.bs.length + 4 := by show (s.bs ++ be x).length = _; rw [List.length_append, be_len]
                             have h2 : (vNum x s).bs.length ≤ 100000000000000 := hs
                             omega) W hB h
theorem vr_flag : Vr 68 mk1 shBool dFlag := by
  intro B b s vs x W hI h hs hB
  obtain rfl : vs = [.bool x] := hI
  exact vflag_any x B b s (by have : (vFlag x s).bs.length = s.bs.length + 4 := by show (s.bs ++ be _).length = _; rw [List.length_append, be_len]
                              have h2 : (vFlag x s).bs.length ≤ 100000000000000 := hs
                              omega) W hB h
theorem vr_text : Vr 24 mk1 shStr dText := by
  intro B b s vs x W hI h hs hB
  obtain rfl : vs = [.string x] := hI
  exact vtext_any x B b s hs W hB h
theorem many_len (n : Nat) (s : Wst) : (vMany n s).bs.length = s.bs.length + 4 := by rw [vMany_bs, List.length_append, be_len]

set_option maxHeartbeats 1600000 in
set_option maxRecDepth 100000 in
theorem vr_nums : Vr 29 mk1 (shSlice shInt) (dList dNum) := by
  intro B b s vs xs W hI h hs hB
  obtain ⟨a, l, cap, rfl, hr⟩ := slice_is.1 hI
  clear hI
  obtain ⟨s1, hs1⟩ : ∃ s1, vMany l s = s1 := ⟨_, rfl⟩
  obtain ⟨R, hres⟩ : ∃ R, vGo dNum.v xs s1 = R := ⟨_, rfl⟩
  have hv : (dList dNum).v xs s = R := by rw [← hres, ← hs1, ← hr.1]; rfl
  rw [hv] at hs ⊢
  have hm1 : s1.bs.length ≤ R.bs.length := by rw [← hres]; exact vGo_mono dNum xs s1
  have hc := vmany_any l B b s (by have := many_len l s; rw [hs1] at this; omega) W hB h
  rw [hs1] at hc
  have hml : l ≤ 9223372036854775807 := row_max hr
  have HR := Lib.hid hr
  have HRES := Lib.hid hres
  clear h hr hres hs1 hv
  show Calls Tryz.prog 29 #[.pointer (some ⟨b, 0, none⟩), .slice a l cap] W _
  go_enter Tryz.func29, Tryz.ntmps29
  go_wp2_with (go_at_call 25; refine hc.mono ?_)
  first | rintro e W1 rfl hw hf | rintro e W1 ⟨rfl, hw, hf⟩
  have HW := Lib.hid hw
  have HF := Lib.hid hf
  clear hw hf hc
  go_wp2_with fail
  go_loopw [4] (fun i wr => ∃ (k : Nat) (t : Wst), k ≤ l ∧ i = .int .i64 k ∧ VAt wr B b t ∧ Fr 70 5 B W wr ∧ vGo dNum.v (xs.drop k) t = R) (fun i _ => l - (intOf i).toNat)
  case atStart => exact ⟨0, _, Nat.zero_le _, rfl, HW.out, HF.out, by rw [List.drop_zero]; exact HRES.out⟩
  case round =>
    clear HW HF
    obtain ⟨k, t, hk, rfl, hw, hf, hgo⟩ := hrel
    have HGO := Lib.hid hgo
    have HW := Lib.hid hw
    have HFR := Lib.hid hf
    clear hw hf hgo
    by_cases hlt : k < l
    · obtain ⟨bb, o, x, vs, rfl, hbb, hx, hC, hI⟩ := (kept_row7 HR.out HFR.out).item hlt
      have i0 : (k : Int) < (l : Int) := by omega
      have i1 : (0 : Int) ≤ (k : Int) := by omega
      obtain rfl := int_is.1 hI
      have HX := Lib.hid hx
      have HBB := Lib.hid hbb
      have HC := Lib.hid hC
      clear hC hx hbb hI
      obtain ⟨r1, hr1⟩ : ∃ r, dNum.v x t = r := ⟨_, rfl⟩
      have hm1 : t.bs.length ≤ r1.bs.length := by rw [← hr1]; exact dNum.mono _ _
      have HS1 := Lib.hid hr1
      have hlast : r1.bs.length ≤ R.bs.length := by
        have h9 := HGO.out
        rw [vGo_next HX.out, show dNum.v x t = r1 from by rw [← HS1.out] <;> rfl] at h9
        rw [← h9]
        exact vGo_mono dNum _ _
      clear hr1
      have ee : wr.cell? ⟨bb, o + k, none⟩ = some (.int .i64 x) := by
        have h9 := (HC.out.keep ((Fr.refl 70 5 B wr).below.block bb HBB.out)) 0 _ rfl
        rw [show o + k * shInt.n + 0 = o + k by show o + k * 1 + 0 = _; omega] at h9
        exact h9
      have hc := vr_num B b t [.int .i64 x] (x) wr (show _ from rfl) HW.out (by rw [HS1.out]; omega) (Nat.le_trans hB (Nat.le_trans HFR.out.size (Fr.refl 70 5 B wr).size))
      rw [HS1.out] at hc
      go_wp2_with (go_at_call 31; refine hc.mono ?_)
      first | rintro e Y1 rfl hw2 hf2 | rintro e Y1 ⟨rfl, hw2, hf2⟩
      have HV1 := Lib.hid hw2
      have HK1 := Lib.hid ((Fr.refl 70 5 B wr).trans hf2)
      clear hw2 hf2 hc ee
      have HNX := Lib.hid (show dNum.v x t = r1 from by rw [← HS1.out] <;> rfl)
      go_wp2_with fail
      refine ⟨⟨k + 1, r1, by omega, by go_num, HV1.out, HFR.out.trans HK1.out, ?_⟩, by simp [intOf]; omega⟩
      rw [← HGO.out, vGo_next HX.out, HNX.out]
    · obtain rfl : k = l := by omega
      have HEND := Lib.hid (show t = R by rw [← HGO.out, List.drop_of_length_le (by rw [HR.out.1]; exact Nat.le_refl _)]; rfl)
      go_wp2_with fail
      go_returns
      exact ⟨rfl, by rw [← HEND.out]; exact HW.out, HFR.out⟩

set_option maxHeartbeats 1600000 in
set_option maxRecDepth 100000 in
theorem vr_texts : Vr 26 mk1 (shSlice shStr) (dList dText) := by
  intro B b s vs xs W hI h hs hB
  obtain ⟨a, l, cap, rfl, hr⟩ := slice_is.1 hI
  clear hI
  obtain ⟨s1, hs1⟩ : ∃ s1, vMany l s = s1 := ⟨_, rfl⟩
  obtain ⟨R, hres⟩ : ∃ R, vGo dText.v xs s1 = R := ⟨_, rfl⟩
  have hv : (dList dText).v xs s = R := by rw [← hres, ← hs1, ← hr.1]; rfl
  rw [hv] at hs ⊢
  have hm1 : s1.bs.length ≤ R.bs.length := by rw [← hres]; exact vGo_mono dText xs s1
  have hc := vmany_any l B b s (by have := many_len l s; rw [hs1] at this; omega) W hB h
  rw [hs1] at hc
  have hml : l ≤ 9223372036854775807 := row_max hr
  have HR := Lib.hid hr
  have HRES := Lib.hid hres
  clear h hr hres hs1 hv
  show Calls Tryz.prog 26 #[.pointer (some ⟨b, 0, none⟩), .slice a l cap] W _
  go_enter Tryz.func26, Tryz.ntmps26
  go_wp2_with (go_at_call 25; refine hc.mono ?_)
  first | rintro e W1 rfl hw hf | rintro e W1 ⟨rfl, hw, hf⟩
  have HW := Lib.hid hw
  have HF := Lib.hid hf
  clear hw hf hc
  go_wp2_with fail
  go_loopw [4] (fun i wr => ∃ (k : Nat) (t : Wst), k ≤ l ∧ i = .int .i64 k ∧ VAt wr B b t ∧ Fr 70 5 B W wr ∧ vGo dText.v (xs.drop k) t = R) (fun i _ => l - (intOf i).toNat)
  case atStart => exact ⟨0, _, Nat.zero_le _, rfl, HW.out, HF.out, by rw [List.drop_zero]; exact HRES.out⟩
  case round =>
    clear HW HF
    obtain ⟨k, t, hk, rfl, hw, hf, hgo⟩ := hrel
    have HGO := Lib.hid hgo
    have HW := Lib.hid hw
    have HFR := Lib.hid hf
    clear hw hf hgo
    by_cases hlt : k < l
    · obtain ⟨bb, o, x, vs, rfl, hbb, hx, hC, hI⟩ := (kept_row7 HR.out HFR.out).item hlt
      have i0 : (k : Int) < (l : Int) := by omega
      have i1 : (0 : Int) ≤ (k : Int) := by omega
      obtain rfl := str_is.1 hI
      have HX := Lib.hid hx
      have HBB := Lib.hid hbb
      have HC := Lib.hid hC
      clear hC hx hbb hI
      obtain ⟨r1, hr1⟩ : ∃ r, dText.v x t = r := ⟨_, rfl⟩
      have hm1 : t.bs.length ≤ r1.bs.length := by rw [← hr1]; exact dText.mono _ _
      have HS1 := Lib.hid hr1
      have hlast : r1.bs.length ≤ R.bs.length := by
        have h9 := HGO.out
        rw [vGo_next HX.out, show dText.v x t = r1 from by rw [← HS1.out] <;> rfl] at h9
        rw [← h9]
        exact vGo_mono dText _ _
      clear hr1
      have ee : wr.cell? ⟨bb, o + k, none⟩ = some (.string x) := by
        have h9 := (HC.out.keep ((Fr.refl 70 5 B wr).below.block bb HBB.out)) 0 _ rfl
        rw [show o + k * shStr.n + 0 = o + k by show o + k * 1 + 0 = _; omega] at h9
        exact h9
      have hc := vr_text B b t [.string x] (x) wr (show _ from rfl) HW.out (by rw [HS1.out]; omega) (Nat.le_trans hB (Nat.le_trans HFR.out.size (Fr.refl 70 5 B wr).size))
      rw [HS1.out] at hc
      go_wp2_with (go_at_call 24; refine hc.mono ?_)
      first | rintro e Y1 rfl hw2 hf2 | rintro e Y1 ⟨rfl, hw2, hf2⟩
      have HV1 := Lib.hid hw2
      have HK1 := Lib.hid ((Fr.refl 70 5 B wr).trans hf2)
      clear hw2 hf2 hc ee
      have HNX := Lib.hid (show dText.v x t = r1 from by rw [← HS1.out] <;> rfl)
      go_wp2_with fail
      refine ⟨⟨k + 1, r1, by omega, by go_num, HV1.out, HFR.out.trans HK1.out, ?_⟩, by simp [intOf]; omega⟩
      rw [← HGO.out, vGo_next HX.out, HNX.out]
    · obtain rfl : k = l := by omega
      have HEND := Lib.hid (show t = R by rw [← HGO.out, List.drop_of_length_le (by rw [HR.out.1]; exact Nat.le_refl _)]; rfl)
      go_wp2_with fail
      go_returns
      exact ⟨rfl, by rw [← HEND.out]; exact HW.out, HFR.out⟩

set_option maxHeartbeats 1600000 in
set_option maxRecDepth 100000 in
theorem vr_links : Vr 30 mk1 (shSlice shLink) (dList dLink) := by
  intro B b s vs xs W hI h hs hB
  obtain ⟨a, l, cap, rfl, hr⟩ := slice_is.1 hI
  clear hI
  obtain ⟨s1, hs1⟩ : ∃ s1, vMany l s = s1 := ⟨_, rfl⟩
  obtain ⟨R, hres⟩ : ∃ R, vGo dLink.v xs s1 = R := ⟨_, rfl⟩
  have hv : (dList dLink).v xs s = R := by rw [← hres, ← hs1, ← hr.1]; rfl
  rw [hv] at hs ⊢
  have hm1 : s1.bs.length ≤ R.bs.length := by rw [← hres]; exact vGo_mono dLink xs s1
  have hc := vmany_any l B b s (by have := many_len l s; rw [hs1] at this; omega) W hB h
  rw [hs1] at hc
  have hml : l ≤ 9223372036854775807 := row_max hr
  have HR := Lib.hid hr
  have HRES := Lib.hid hres
  clear h hr hres hs1 hv
  show Calls Tryz.prog 30 #[.pointer (some ⟨b, 0, none⟩), .slice a l cap] W _
  go_enter Tryz.func30, Tryz.ntmps30
  go_wp2_with (go_at_call 25; refine hc.mono ?_)
  first | rintro e W1 rfl hw hf | rintro e W1 ⟨rfl, hw, hf⟩
  have HW := Lib.hid hw
  have HF := Lib.hid hf
  clear hw hf hc
  go_wp2_with fail
  go_loopw [4] (fun i wr => ∃ (k : Nat) (t : Wst), k ≤ l ∧ i = .int .i64 k ∧ VAt wr B b t ∧ Fr 70 5 B W wr ∧ vGo dLink.v (xs.drop k) t = R) (fun i _ => l - (intOf i).toNat)
  case atStart => exact ⟨0, _, Nat.zero_le _, rfl, HW.out, HF.out, by rw [List.drop_zero]; exact HRES.out⟩
  case round =>
    clear HW HF
    obtain ⟨k, t, hk, rfl, hw, hf, hgo⟩ := hrel
    have HGO := Lib.hid hgo
    have HW := Lib.hid hw
    have HFR := Lib.hid hf
    clear hw hf hgo
    by_cases hlt : k < l
    · obtain ⟨bb, o, x, vs, rfl, hbb, hx, hC, hI⟩ := (kept_row7 HR.out HFR.out).item hlt
      have i0 : (k : Int) < (l : Int) := by omega
      have i1 : (0 : Int) ≤ (k : Int) := by omega
      obtain rfl := link_is.1 hI
      have HX := Lib.hid hx
      have HBB := Lib.hid hbb
      have HC := Lib.hid hC
      clear hC hx hbb hI
      obtain ⟨r1, hr1⟩ : ∃ r, dNum.v x.g t = r := ⟨_, rfl⟩
      have hm1 : t.bs.length ≤ r1.bs.length := by rw [← hr1]; exact dNum.mono _ _
      have HS1 := Lib.hid hr1
      obtain ⟨r2, hr2⟩ : ∃ r, dNum.v x.s r1 = r := ⟨_, rfl⟩
      have hm2 : r1.bs.length ≤ r2.bs.length := by rw [← hr2]; exact dNum.mono _ _
      have HS2 := Lib.hid hr2
      obtain ⟨r3, hr3⟩ : ∃ r, dFlag.v x.b r2 = r := ⟨_, rfl⟩
      have hm3 : r2.bs.length ≤ r3.bs.length := by rw [← hr3]; exact dFlag.mono _ _
      have HS3 := Lib.hid hr3
      have hlast : r3.bs.length ≤ R.bs.length := by
        have h9 := HGO.out
        rw [vGo_next HX.out, show dLink.v x t = r3 from by rw [← HS3.out]; rw [← HS2.out]; rw [← HS1.out] <;> rfl] at h9
        rw [← h9]
        exact vGo_mono dLink _ _
      clear hr1 hr2 hr3
      have ee : wr.cell? ⟨bb, o + k * 3, none⟩ = some (.int .i64 x.g) := (HC.out.keep ((Fr.refl 70 5 B wr).below.block bb HBB.out)) 0 _ rfl
      have hc := vr_num B b t [.int .i64 x.g] (x.g) wr (show _ from rfl) HW.out (by rw [HS1.out]; omega) (Nat.le_trans hB (Nat.le_trans HFR.out.size (Fr.refl 70 5 B wr).size))
      rw [HS1.out] at hc
      go_wp2_with (go_at_call 31; refine hc.mono ?_)
      first | rintro e Y1 rfl hw2 hf2 | rintro e Y1 ⟨rfl, hw2, hf2⟩
      have HV1 := Lib.hid hw2
      have HK1 := Lib.hid ((Fr.refl 70 5 B wr).trans hf2)
      clear hw2 hf2 hc ee
      have ee : Y1.cell? ⟨bb, o + k * 3 + 1, none⟩ = some (.int .i64 x.s) := (HC.out.keep (HK1.out.below.block bb HBB.out)) 1 _ rfl
      have hc := vr_num B b r1 [.int .i64 x.s] (x.s) Y1 (show _ from rfl) HV1.out (by rw [HS2.out]; omega) (Nat.le_trans hB (Nat.le_trans HFR.out.size HK1.out.size))
      rw [HS2.out] at hc
      go_wp2_with (go_at_call 31; refine hc.mono ?_)
      first | rintro e Y2 rfl hw2 hf2 | rintro e Y2 ⟨rfl, hw2, hf2⟩
      have HV2 := Lib.hid hw2
      have HK2 := Lib.hid (HK1.out.trans hf2)
      clear hw2 hf2 hc ee
      have ee : Y2.cell? ⟨bb, o + k * 3 + 2, none⟩ = some (.bool x.b) := (HC.out.keep (HK2.out.below.block bb HBB.out)) 2 _ rfl
      have hc := vr_flag B b r2 [.bool x.b] (x.b) Y2 (show _ from rfl) HV2.out (by rw [HS3.out]; omega) (Nat.le_trans hB (Nat.le_trans HFR.out.size HK2.out.size))
      rw [HS3.out] at hc
      go_wp2_with (go_at_call 68; refine hc.mono ?_)
      first | rintro e Y3 rfl hw2 hf2 | rintro e Y3 ⟨rfl, hw2, hf2⟩
      have HV3 := Lib.hid hw2
      have HK3 := Lib.hid (HK2.out.trans hf2)
      clear hw2 hf2 hc ee
      have HNX := Lib.hid (show dLink.v x t = r3 from by rw [← HS3.out]; rw [← HS2.out]; rw [← HS1.out] <;> rfl)
      go_wp2_with fail
      refine ⟨⟨k + 1, r3, by omega, by go_num, HV3.out, HFR.out.trans HK3.out, ?_⟩, by simp [intOf]; omega⟩
      rw [← HGO.out, vGo_next HX.out, HNX.out]
    · obtain rfl : k = l := by omega
      have HEND := Lib.hid (show t = R by rw [← HGO.out, List.drop_of_length_le (by rw [HR.out.1]; exact Nat.le_refl _)]; rfl)
      go_wp2_with fail
      go_returns
      exact ⟨rfl, by rw [← HEND.out]; exact HW.out, HFR.out⟩
end Go.Proofs.YtoaohoeghlidaaaGreatDoor
