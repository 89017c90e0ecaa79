/-
  The program's writer: how many follow, a text, a truth.
-/
import Derived.Test.YtoaohoeghlidaaaGreatDoorWNum
import Derived.Lib.AppendStr
namespace Go.Proofs.YtoaohoeghlidaaaGreatDoor
open Go.ChangeShapes Go.WideShapes Go.ChangeAt Go.RowKit

set_option maxHeartbeats 800000 in
set_option maxRecDepth 100000 in
theorem count_any (n : Nat) (B b : Nat) (s : Wst) (hs : s.bs.length + 4 ≤ 100000000000000) (W : World) (hB : B ≤ W.heap.size) (h : WAt W B b s) :
    Calls Tryz.prog 54 #[.pointer (some ⟨b, 0, none⟩), .int .i64 n] W fun e W' => e = .returned (.bool (decide (n ≤ 10000))) ∧ WAt W' B b (if 10000 < n then ⟨s.bs, true⟩ else ⟨s.bs ++ be n, s.full⟩) ∧ Fr 64 5 B W W' := by
  obtain ⟨c1, f0, f1⟩ := h.cells
  by_cases hn : 10000 < n
  · have d0 : decide ((10000 : Int) < (n : Int)) = true := decide_eq_true (by omega)
    have d1 : decide (n ≤ 10000) = false := decide_eq_false (by omega)
    rw [if_pos hn, d1]
    have HX := Lib.hid h.fill
    clear h hn
    go_enter Tryz.func54, Tryz.ntmps54
    go_wp2_with fail
    go_returns
    exact ⟨rfl, HX.out⟩
  · have d0 : decide ((10000 : Int) < (n : Int)) = false := decide_eq_false (by omega)
    have d1 : decide (n ≤ 10000) = true := decide_eq_true (by omega)
    rw [if_neg hn, d1]
    have hw : wNum (n : Int) s = ⟨s.bs ++ be n, s.full⟩ := by unfold wNum; rw [if_neg (by omega)]
    have hc := number_any n B b s hs W hB h
    rw [hw] at hc
    clear h hn hw
    go_enter Tryz.func54, Tryz.ntmps54
    go_wp2_with (go_at_call 67; refine hc.mono ?_)
    first | rintro e W1 rfl hw hf | rintro e W1 ⟨rfl, hw, hf⟩
    have HW := Lib.hid hw
    have HF := Lib.hid hf
    clear hw hf hc
    go_wp2_with fail
    go_returns
    exact ⟨rfl, HW.out, HF.out⟩

theorem strCells_bytes (t : ByteArray) : Lib.strCells t = byteCells t.data.toList := rfl

set_option maxHeartbeats 800000 in
set_option maxRecDepth 100000 in
theorem text_any (t : ByteArray) (B b : Nat) (s : Wst) (hs : s.bs.length + 10004 ≤ 100000000000000) (W : World) (hB : B ≤ W.heap.size) (h : WAt W B b s) :
    Calls Tryz.prog 21 #[.pointer (some ⟨b, 0, none⟩), .string t] W fun e W' => e = .returned (.tuple #[]) ∧ WAt W' B b (wText t s) ∧ Fr 64 5 B W W' := by
  have hc := count_any t.size B b s (by omega) W hB h
  unfold wText
  by_cases hn : 10000 < t.size
  · rw [if_pos hn] at hc ⊢
    have d1 : decide (t.size ≤ 10000) = false := decide_eq_false (by omega)
    rw [d1] at hc
    clear h hn d1
    go_enter Tryz.func21, Tryz.ntmps21
    go_wp2_with (go_at_call 54; refine hc.mono ?_)
    first | rintro e W1 rfl hw hf | rintro e W1 ⟨rfl, hw, hf⟩
    have HW := Lib.hid hw
    have HF := Lib.hid hf
    clear hw hf hc
    go_wp2_with fail
    go_returns
    exact ⟨rfl, HW.out, HF.out⟩
  · rw [if_neg hn] at hc ⊢
    have d1 : decide (t.size ≤ 10000) = true := decide_eq_true (by omega)
    rw [d1] at hc
    obtain ⟨i00, hi, hz0, hz1, hz2⟩ := info_parts info5
    have hsz : t.size ≤ 10000 := by omega
    clear h hn d1
    go_enter Tryz.func21, Tryz.ntmps21
    go_wp2_with (go_at_call 54; refine hc.mono ?_)
    first | rintro e W1 rfl hw hf | rintro e W1 ⟨rfl, hw, hf⟩
    have hsz1 := hf.size
    obtain ⟨hBb, v, hbox, hown⟩ := hw
    have c0 : W1.cell? ⟨b, 0, none⟩ = some v := by rw [Lib.cell_of_heap hbox]; rfl
    have HX := Lib.hid hbox
    have HO := Lib.hid hown
    have HF := Lib.hid hf
    have hl4 : (s.bs ++ be (t.size : Int)).length = s.bs.length + 4 := by rw [List.length_append, be_len]
    have HL4 := Lib.hid hl4
    clear hbox hown hf hc hl4
    go_wp2_with (at_builtin; refine Lib.wpList_append_own_string _ rfl (.tmp 12) (.tmp 13) 32 9 rfl B 5 i00 Tryz.underlying32 Tryz.underlying9 hi hz0 hz1 hz2 v (s.bs ++ be t.size).length _ rfl HO.out t rfl ?c3 ?c4 ?c5 ?_)
    case c3 => unfold maxLen; rw [HL4.out]; omega
    case c4 => rw [HL4.out]; omega
    case c5 => omega
    intro v1 W2 hown1 hgrow1 _
    obtain ⟨g1, cap1, rfl⟩ := Joins.ownsRow_form hown1 (by rw [be_len]; omega)
    rw [strCells_bytes, ← byteCells_app, be_len] at hown1
    have HS := Lib.hid (show s.bs.length + 4 + t.size = (s.bs ++ be (t.size : Int) ++ t.data.toList).length by rw [List.length_append, HL4.out]; rfl)
    have HW := Lib.hid (WAt.more (s := ⟨s.bs ++ be (t.size : Int), s.full⟩) (bs := s.bs ++ be (t.size : Int) ++ t.data.toList) (by omega) hBb HX.out HO.out hgrow1 (by rw [← HS.out]; exact hown1))
    have hb1 := (hgrow1.block b (heap_lt HX.out) (Ne.symm (own_block HO.out HX.out (by decide)))).trans HX.out
    clear hown1 hgrow1 c0
    have c0 : W2.cell? ⟨b, 0, none⟩ = some v := by rw [Lib.cell_of_heap hb1]; rfl
    have f0 := Lib.frozen_of_heap hb1 0
    clear hb1
    go_wp2_with fail
    go_returns
    rw [be_len, ← List.append_assoc]
    exact ⟨rfl, HW.out.1, HF.out.trans HW.out.2⟩

set_option maxHeartbeats 800000 in
set_option maxRecDepth 100000 in
theorem flag_any (f : Bool) (B b : Nat) (s : Wst) (hs : s.bs.length + 4 ≤ 100000000000000) (W : World) (hB : B ≤ W.heap.size) (h : WAt W B b s) :
    Calls Tryz.prog 93 #[.pointer (some ⟨b, 0, none⟩), .bool f] W fun e W' => e = .returned (.tuple #[]) ∧ WAt W' B b (wFlag f s) ∧ Fr 64 5 B W W' := by
  have hc := number_any (if f then 1 else 0) B b s hs W hB h
  unfold wFlag
  clear h
  cases f
  · simp only [Bool.false_eq_true, if_false] at hc ⊢
    go_enter Tryz.func93, Tryz.ntmps93
    go_wp2_with (go_at_call 67; refine hc.mono ?_)
    first | rintro e W1 rfl hw hf | rintro e W1 ⟨rfl, hw, hf⟩
    have HW := Lib.hid hw
    have HF := Lib.hid hf
    clear hw hf hc
    go_wp2_with fail
    go_returns
    exact ⟨rfl, HW.out, HF.out⟩
  · simp only [if_true] at hc ⊢
    go_enter Tryz.func93, Tryz.ntmps93
    go_wp2_with (go_at_call 67; refine hc.mono ?_)
    first | rintro e W1 rfl hw hf | rintro e W1 ⟨rfl, hw, hf⟩
    have HW := Lib.hid hw
    have HF := Lib.hid hf
    clear hw hf hc
    go_wp2_with fail
    go_returns
    exact ⟨rfl, HW.out, HF.out⟩
end Go.Proofs.YtoaohoeghlidaaaGreatDoor
