/-
  The document's reader: links.
-/
import Derived.Test.YtoaohoeghlidaaaGreatDoorQList
namespace Go.Proofs.YtoaohoeghlidaaaGreatDoor
open Go.ChangeShapes Go.WideShapes Go.ChangeAt Go.RowKit

set_option maxHeartbeats 3200000 in
set_option maxRecDepth 100000 in
theorem qd_links : Qd 52 mk1 (shSlice shLink) (dList dLink) [90] := by
  intro B b s W h
  obtain ⟨i00, hi, hz0, hz1, hz2⟩ := info_parts info_Links
  have hblt := h.lt
  have hc := qmany_any B b s W h
  have hcl := rCount_le B 1 s
  obtain ⟨⟨cnt, t0⟩, hx⟩ : ∃ r, rCount B 1 s = r := ⟨_, rfl⟩
  obtain ⟨R, hres⟩ : ∃ R, qGo (dLink.q B) cnt [] t0 = R := ⟨_, rfl⟩
  rw [many_q hx hres]
  rw [hx] at hc hcl
  simp only at hc hcl
  have HRES := Lib.hid hres
  clear h hres hx
  go_enter Tryz.func52, Tryz.ntmps52
  go_wp2_with (go_at_call 47; refine hc.mono ?_)
  rintro e W1 ⟨rfl, hr, hf⟩
  have HR := Lib.hid hr
  have HF := Lib.hid hf
  clear hr hf hc
  go_wp2_with fail
  go_loopw [3, 5, 6] (fun v i _ wr => ∃ (k : Nat) (acc : List LinkD) (t : Rst), k ≤ cnt ∧ i = .int .i64 k ∧ acc.length = k ∧ Lst shLink W.heap.size 90 [] wr v acc ∧ QAt wr b B t ∧ KFr b W wr ∧ qGo (dLink.q B) (cnt - k) acc t = R) (fun _ i _ _ => cnt - (intOf i).toNat)
  case atStart => exact ⟨0, [], t0, Nat.zero_le _, rfl, rfl, Lst.nil, HR.out, HF.out, by rw [Nat.sub_zero]; exact HRES.out⟩
  case round =>
    clear HR HF
    obtain ⟨k, acc, t, hk, rfl, hal, hl, hr, hf, hgo⟩ := hrel
    obtain ⟨a9, n9, cap9, g0, g1, g2, g3, g4, -⟩ := hr.cells
    have HL := Lib.hid hl
    have HR := Lib.hid hr
    have HF := Lib.hid hf
    have HGO := Lib.hid hgo
    have HAL := Lib.hid hal
    clear hl hr hf hgo g0 g1 g3 g4 hal
    have hend : (k = cnt ∨ t.wrong = true) → R = (acc, t) := by
      rintro (rfl | hw)
      · have := HGO.out; rw [Nat.sub_self] at this; exact this.symm
      · rw [← HGO.out, qGo_bad hw]
    by_cases hlt : k < cnt
    · have i0 : (k : Int) < (cnt : Int) := by omega
      have hm : cnt - k = (cnt - (k + 1)) + 1 := by omega
      rw [hm] at HGO
      cases hw : t.wrong with
      | true =>
        rw [hw] at g2
        have HE := Lib.hid (hend (.inr hw))
        obtain ⟨a1, q2, rfl⟩ := HL.out.form
        clear hend hw
        go_wp2_with fail
        go_returns
        refine ⟨[.slice a1 acc.length q2], rfl, ?_⟩
        rw [HE.out]
        exact ⟨⟨a1, _, q2, rfl, HL.out.row rfl⟩, HR.out, HF.out⟩
      | false =>
        rw [hw] at g2
        have HW := Lib.hid hw
        clear hw hend
        have hc := qd_num B b t wr HR.out
        obtain ⟨⟨y0, u1⟩, hx⟩ : ∃ r, dNum.q B t = r := ⟨_, rfl⟩
        rw [hx] at hc
        simp only at hc
        have HY0 := Lib.hid hx
        clear hx
        go_wp2_with (go_at_call 53; refine hc.mono ?_)
        rintro e V1 ⟨vs, rfl, hI, hr, hf⟩
        obtain rfl : vs = [.int .i64 y0] := hI
        simp only [mk1, List.headD_cons]
        have hbq := hr.lt
        have HQ1 := Lib.hid (hr.box #[.int .i64 0, .int .i64 0, .bool false] #[.int .i64 y0, .int .i64 0, .bool false] 90)
        have HK1 := Lib.hid (hf.box #[.int .i64 0, .int .i64 0, .bool false] #[.int .i64 y0, .int .i64 0, .bool false] 90)
        have HB1 := Lib.hid (box_is V1 #[.int .i64 0, .int .i64 0, .bool false] #[.int .i64 y0, .int .i64 0, .bool false] 90)
        have HZ1 := Lib.hid (heap_alloc_new V1 (.cells #[.int .i64 0, .int .i64 0, .bool false] 90))
        have hone : (#[.int .i64 y0, .int .i64 0, .bool false] : Array Value).all (·.oneCell') = true := by simp [Value.oneCell']
        have hsv := hf.size
        have hsu1 : ((V1.alloc (.cells #[.int .i64 0, .int .i64 0, .bool false] 90)).setRow V1.heap.size #[.int .i64 y0, .int .i64 0, .bool false]).heap.size = V1.heap.size + 1 := by rw [size_setRow]; simp
        clear hc hr hf
        go_wp2_with (refine wpList_store_row rfl 90 (.tmp 6) (.tmp 23) rfl V1.heap.size #[.int .i64 y0, .int .i64 0, .bool false] rfl rfl 90 #[.int .i64 0, .int .i64 0, .bool false] HZ1.out size90 rfl hone ?_)
        generalize (V1.alloc (.cells #[.int .i64 0, .int .i64 0, .bool false] 90)).setRow V1.heap.size #[.int .i64 y0, .int .i64 0, .bool false] = U1 at *
        clear HZ1 hone
        have hc := qd_num B b u1 U1 HQ1.out
        obtain ⟨⟨y1, u2⟩, hx⟩ : ∃ r, dNum.q B u1 = r := ⟨_, rfl⟩
        rw [hx] at hc
        simp only at hc
        have HY1 := Lib.hid hx
        clear hx
        go_wp2_with (go_at_call 53; refine hc.mono ?_)
        rintro e V2 ⟨vs, rfl, hI, hr, hf⟩
        obtain rfl : vs = [.int .i64 y1] := hI
        simp only [mk1, List.headD_cons]
        have hb := (hf.block _ (heap_lt HB1.out) (by omega)).trans HB1.out
        have e0 : V2.cell? ⟨V1.heap.size, 1, none⟩ = some (.int .i64 0) := by rw [Lib.cell_of_heap hb]; rfl
        have f0 := Lib.frozen_of_heap hb 1
        have HB2 := Lib.hid (show (V2.setCell ⟨V1.heap.size, 1, none⟩ (.int .i64 y1)).heap[V1.heap.size]? = some (.cells #[.int .i64 y0, .int .i64 y1, .bool false] 90 (0, 0)) from heap_set (j := 1) (.int .i64 y1) hb)
        have HK2 := Lib.hid ((HK1.out.trans hf).set (p := ⟨V1.heap.size, 1, none⟩) (.inr hsv) (.int .i64 y1))
        have HQ2 := Lib.hid (hr.set (q := V1.heap.size) (o := 1) (by omega) (.int .i64 y1))
        clear hc hr hf hb HB1 HK1 HQ1
        go_wp2_with fail
        generalize V2.setCell ⟨V1.heap.size, 1, none⟩ (.int .i64 y1) = U2 at *
        clear e0 f0
        have hc := qd_num B b u2 U2 HQ2.out
        obtain ⟨⟨y2, u3⟩, hx⟩ : ∃ r, dNum.q B u2 = r := ⟨_, rfl⟩
        rw [hx] at hc
        simp only at hc
        have HY2 := Lib.hid hx
        clear hx
        go_wp2_with (go_at_call 53; refine hc.mono ?_)
        rintro e V3 ⟨vs, rfl, hI, hr, hf⟩
        obtain rfl : vs = [.int .i64 y2] := hI
        simp only [mk1, List.headD_cons]
        have hb := (hf.block _ (heap_lt HB2.out) (by omega)).trans HB2.out
        have e0 : V3.cell? ⟨V1.heap.size, 2, none⟩ = some (.bool false) := by rw [Lib.cell_of_heap hb]; rfl
        have f0 := Lib.frozen_of_heap hb 2
        have HB3 := Lib.hid (show (V3.setCell ⟨V1.heap.size, 2, none⟩ (.bool (y2 == 1))).heap[V1.heap.size]? = some (.cells #[.int .i64 y0, .int .i64 y1, .bool (y2 == 1)] 90 (0, 0)) from heap_set (j := 2) (.bool (y2 == 1)) hb)
        have HK3 := Lib.hid ((HK2.out.trans hf).set (p := ⟨V1.heap.size, 2, none⟩) (.inr hsv) (.bool (y2 == 1)))
        have HQ3 := Lib.hid (hr.set (q := V1.heap.size) (o := 2) (by omega) (.bool (y2 == 1)))
        clear hc hr hf hb HB2 HK2 HQ2
        have HX := Lib.hid (show dLink.q B t = ((⟨y0, y1, (y2 == 1)⟩ : LinkD), u3) from iso_q (pair_q (pair_q HY0.out HY1.out) (flag_q HY2.out)))
        have hsz := HF.out.size
        have hszu := HK3.out.size
        have hx0 : shLink.Is (SB W.heap.size [] (V3.setCell ⟨V1.heap.size, 2, none⟩ (.bool (y2 == 1)))) (V3.setCell ⟨V1.heap.size, 2, none⟩ (.bool (y2 == 1))) [.int .i64 y0, .int .i64 y1, .bool (y2 == 1)] ⟨y0, y1, (y2 == 1)⟩ := link_is.2 rfl
        obtain ⟨vss, hvl, hown, hIs⟩ := (HL.out.kfr HK3.out hblt).kp (Kp.alloc _ _ _ (.cells [.int .i64 y0, .int .i64 y1, .bool (y2 == 1)].toArray 90))
        have HXE := Lib.hid (is_step hx0 (Kp.alloc W.heap.size [] (V3.setCell ⟨V1.heap.size, 2, none⟩ (.bool (y2 == 1))) (.cells [.int .i64 y0, .int .i64 y1, .bool (y2 == 1)].toArray 90)))
        have HVL := Lib.hid hvl
        have HO2 := Lib.hid (HAL.out ▸ hown)
        have HOW := Lib.hid hown
        have HIS := Lib.hid hIs
        clear hown hIs hvl hx0
        go_wp2_with (first | (refine wpList_load_row rfl 90 (.tmp 6) rfl V1.heap.size rfl 90 #[.int .i64 y0, .int .i64 y1, .bool (y2 == 1)] (0, 0) _ HB3.out Tryz.underlying90 rfl size90 ?_) | (at_builtin; refine wpList_append_own _ rfl (.tmp 31) (.tmp 33) 26 rfl W.heap.size 90 i00 (.agg #[.int .i64 0, .int .i64 0, .bool false]) 3 24 Tryz.underlying26 hi hz0 hz1 hz2 rfl (by decide) _ k vss.flatten rfl HO2.out ⟨V3.heap.size, 0, none⟩ 1 1 [.int .i64 y0, .int .i64 y1, .bool (y2 == 1)] rfl rfl ?c1 ?c2 ?c3 ?c4 ?c5 ?_))
        case c1 => rw [show V3.heap.size = (V3.setCell ⟨V1.heap.size, 2, none⟩ (.bool (y2 == 1))).heap.size by simp]; exact lit_cells (V3.setCell ⟨V1.heap.size, 2, none⟩ (.bool (y2 == 1))) [.int .i64 y0, .int .i64 y1, .bool (y2 == 1)].toArray 90
        case c2 => intro u hu; simp only [List.mem_cons, List.not_mem_nil, or_false] at hu; rcases hu with rfl | rfl | rfl <;> rfl
        case c3 => unfold maxLen; omega
        case c4 => omega
        case c5 => have hq : (V3.setCell ⟨V1.heap.size, 2, none⟩ (.bool (y2 == 1))).heap.size = V3.heap.size := by simp
                   simp; omega
        intro v1 W3 hown1 hgrow1 _
        obtain ⟨q1, q2, rfl⟩ := Joins.ownsRow_form hown1 (by omega)
        have HL3 := Lib.hid (Lst.push HVL.out HOW.out HIS.out HXE.out hgrow1 (by rw [HAL.out]; exact hown1) (by decide))
        have HFA := Lib.hid ((HF.out.trans HK3.out).alloc (.cells [.int .i64 y0, .int .i64 y1, .bool (y2 == 1)].toArray 90))
        have HF3 := Lib.hid (HFA.out.grown hgrow1 HO2.out)
        have HR3 := Lib.hid ((HQ3.out.alloc (.cells [.int .i64 y0, .int .i64 y1, .bool (y2 == 1)].toArray 90)).grown hblt hgrow1 HO2.out)
        clear hown1 hgrow1
        go_wp2_with fail
        refine ⟨⟨k + 1, _, u3, by omega, by go_num, by simp [HAL.out], HL3.out, HR3.out, HF3.out, ?_⟩, by simp [intOf]; omega⟩
        have hg := HGO.out
        rw [qGo_one HW.out, HX.out] at hg
        exact hg
    · obtain rfl : k = cnt := by omega
      have HE := Lib.hid (hend (.inl rfl))
      obtain ⟨a1, q2, rfl⟩ := HL.out.form
      clear hend
      go_wp2_with fail
      go_returns
      refine ⟨[.slice a1 acc.length q2], rfl, ?_⟩
      rw [HE.out]
      exact ⟨⟨a1, _, q2, rfl, HL.out.row rfl⟩, HR.out, HF.out⟩
end Go.Proofs.YtoaohoeghlidaaaGreatDoor
