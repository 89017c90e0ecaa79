/-
  The document's writer: what it is in memory; a number, how many follow, a text, a truth.
-/
import Derived.Test.YtoaohoeghlidaaaGreatDoorVPure
import Derived.Test.YtoaohoeghlidaaaGreatDoorWText
namespace Go.Proofs.YtoaohoeghlidaaaGreatDoor
open Go.ChangeShapes Go.WideShapes Go.ChangeAt Go.RowKit

/-- a writer of the document -/
def VAt (W : World) (B b : Nat) (s : Wst) : Prop := B ≤ b ∧ ∃ v, W.heap[b]? = some (.cells #[v, .bool s.full] 70 (0, 0)) ∧ W.ownsRow B 5 1 v s.bs.length (byteCells s.bs)
theorem VAt.cells {W : World} {B b : Nat} {s : Wst} (h : VAt W B b s) : W.cell? ⟨b, 1, none⟩ = some (.bool s.full) ∧ W.frozen? ⟨b, 0, none⟩ = false ∧ W.frozen? ⟨b, 1, none⟩ = false := by
  obtain ⟨_, v, hb, _⟩ := h
  refine ⟨by rw [Lib.cell_of_heap hb]; rfl, Lib.frozen_of_heap hb 0, Lib.frozen_of_heap hb 1⟩
/-- a document's writer's flag is set -/
theorem VAt.fill {W : World} {B b : Nat} {s : Wst} (h : VAt W B b s) : VAt (W.setCell ⟨b, 1, none⟩ (.bool true)) B b ⟨s.bs, true⟩ ∧ Fr 70 5 B W (W.setCell ⟨b, 1, none⟩ (.bool true)) := by
  obtain ⟨h1, v, h2, h3⟩ := h
  exact ⟨⟨h1, v, cells_set1 h2, own_set h3 h2 (by decide) _⟩, (Fr.refl _ _ _ _).set h1 h2 (.inl rfl) _⟩
/-- a document's writer's bytes are replaced by longer ones -/
theorem VAt.more {W W1 : World} {B b : Nat} {s : Wst} {bs : List UInt8} {v v1 : Value} (hB : B ≤ W.heap.size) (hb : B ≤ b) (h2 : W.heap[b]? = some (.cells #[v, .bool s.full] 70 (0, 0))) (h3 : W.ownsRow B 5 1 v s.bs.length (byteCells s.bs))
    (hg : W.grownBy W1 v.ownBlock) (ho : W1.ownsRow B 5 1 v1 bs.length (byteCells bs)) : VAt (W1.setCell ⟨b, 0, none⟩ v1) B b ⟨bs, s.full⟩ ∧ Fr 70 5 B W (W1.setCell ⟨b, 0, none⟩ v1) := by
  have hb1 : W1.heap[b]? = some (.cells #[v, .bool s.full] 70 (0, 0)) := (hg.block b (heap_lt h2) (Ne.symm (own_block h3 h2 (by decide)))).trans h2
  exact ⟨⟨hb, v1, cells_set0 hb1, own_set ho hb1 (by decide) _⟩, ((Fr.refl 70 5 B W).grown hB hg h3 (.inr rfl)).set hb hb1 (.inl rfl) _⟩
theorem VAt.alloc {W : World} {B b : Nat} {s : Wst} (h : VAt W B b s) (o : Obj) : VAt (W.alloc o) B b s := by
  obtain ⟨h1, v, h2, h3⟩ := h
  exact ⟨h1, v, (Below.heap_alloc _ _ _ (heap_lt h2)).trans h2, h3.alloc o⟩


set_option maxHeartbeats 1600000 in
set_option maxRecDepth 100000 in
theorem vnum_any (n : Int) (B b : Nat) (s : Wst) (hs : s.bs.length + 4 ≤ 100000000000000) (W : World) (hB : B ≤ W.heap.size) (h : VAt W B b s) :
    Calls Tryz.prog 31 #[.pointer (some ⟨b, 0, none⟩), .int .i64 n] W fun e W' => e = .returned (.tuple #[]) ∧ VAt W' B b (vNum n s) ∧ Fr 70 5 B W W' := by
  obtain ⟨c1, f0, f1⟩ := h.cells
  obtain ⟨i00, hi, hz0, hz1, hz2⟩ := info_parts info5
  by_cases hhi : n < -2147483648 ∨ 2147483647 < n
  · have hw : vNum n s = ⟨s.bs ++ be n, true⟩ := by unfold vNum; rw [if_pos hhi]
    rw [hw]
    have HV := Lib.hid h.fill.1
    have FX := Lib.hid h.fill.2
    clear hw h
    by_cases hlo : n < -2147483648
    · have d0 : decide (n < -2147483648) = true := decide_eq_true hlo
      clear hhi hlo
      go_enter Tryz.func31, Tryz.ntmps31
      obtain ⟨hBb, v, hbox, hown⟩ := HV.out
      have c0 : (W.setCell ⟨b, 1, none⟩ (.bool true)).cell? ⟨b, 0, none⟩ = some v := by rw [Lib.cell_of_heap hbox]; rfl
      have HX := Lib.hid hbox
      have HO := Lib.hid hown
      clear hbox hown HV
      go_wp2_with ((at_builtin; refine wpList_append_own _ rfl (.tmp 20) (.tmp 32) 32 rfl B 5 i00 (.int .u8 0) 1 1 Tryz.underlying32 hi hz0 hz1 hz2 rfl (by decide) v s.bs.length _ rfl (HO.out.alloc _) ⟨W.heap.size, 0, none⟩ 4 4 (byteCells (be n)) rfl (by rw [byteCells_len, be_len]) ?c1 ?c2 ?c3 ?c4 ?c5 ?_))
      case c1 =>
        rw [be_cells]
        first | exact fun _ _ h => h | (rw [show W.heap.size = (W.setCell ⟨b, 1, none⟩ (.bool true)).heap.size by simp]; exact lit_cells (W.setCell ⟨b, 1, none⟩ (.bool true)) #[.int .u8 (n % 4294967296 / 16777216), .int .u8 (n % 4294967296 / 65536 % 256), .int .u8 (n % 4294967296 / 256 % 256), .int .u8 (n % 256)] 5)
      case c2 => intro u hu; rw [be_cells] at hu; simp at hu; rcases hu with rfl | rfl | rfl | rfl <;> rfl
      case c3 => unfold maxLen; omega
      case c4 => omega
      case c5 => have hq : (W.setCell ⟨b, 1, none⟩ (.bool true)).heap.size = W.heap.size := by simp
                 have := FX.out.size; simp; omega
      intro v1 W1 hown1 hgrow1 _
      obtain ⟨g1, cap1, rfl⟩ := Joins.ownsRow_form hown1 (by omega)
      have HS := Lib.hid (show s.bs.length + 4 = (s.bs ++ be n).length by rw [List.length_append, be_len])
      rw [← byteCells_app] at hown1
      have HW := Lib.hid (VAt.more (s := ⟨s.bs, true⟩) (bs := s.bs ++ be n) (by have := FX.out.size; simp; omega) hBb ((Below.heap_alloc _ _ _ (heap_lt HX.out)).trans HX.out) (HO.out.alloc _) hgrow1 (by rw [← HS.out]; exact hown1))
      have HF := Lib.hid ((FX.out.alloc (by have := FX.out.size; omega) (.cells #[.int .u8 (n % 4294967296 / 16777216), .int .u8 (n % 4294967296 / 65536 % 256), .int .u8 (n % 4294967296 / 256 % 256), .int .u8 (n % 256)] 5)).trans HW.out.2)
      have hb1 := (hgrow1.block b (by have hq : (W.setCell ⟨b, 1, none⟩ (.bool true)).heap.size = W.heap.size := by simp
                                      have := heap_lt HX.out
                                      simp; omega) (Ne.symm (own_block HO.out HX.out (by decide)))).trans ((Below.heap_alloc _ _ _ (heap_lt HX.out)).trans HX.out)
      clear hown1 hgrow1 c0
      have c0 : W1.cell? ⟨b, 0, none⟩ = some v := by rw [Lib.cell_of_heap hb1]; rfl
      have f0 := Lib.frozen_of_heap hb1 0
      clear hb1
      go_wp2_with fail
      go_returns
      exact ⟨rfl, HW.out.1, HF.out⟩
    · have d0 : decide (n < -2147483648) = false := decide_eq_false hlo
      have d1 : decide (2147483647 < n) = true := decide_eq_true (by omega)
      clear hhi hlo
      go_enter Tryz.func31, Tryz.ntmps31
      obtain ⟨hBb, v, hbox, hown⟩ := HV.out
      have c0 : (W.setCell ⟨b, 1, none⟩ (.bool true)).cell? ⟨b, 0, none⟩ = some v := by rw [Lib.cell_of_heap hbox]; rfl
      have HX := Lib.hid hbox
      have HO := Lib.hid hown
      clear hbox hown HV
      go_wp2_with ((at_builtin; refine wpList_append_own _ rfl (.tmp 20) (.tmp 32) 32 rfl B 5 i00 (.int .u8 0) 1 1 Tryz.underlying32 hi hz0 hz1 hz2 rfl (by decide) v s.bs.length _ rfl (HO.out.alloc _) ⟨W.heap.size, 0, none⟩ 4 4 (byteCells (be n)) rfl (by rw [byteCells_len, be_len]) ?c1 ?c2 ?c3 ?c4 ?c5 ?_))
      case c1 =>
        rw [be_cells]
        first | exact fun _ _ h => h | (rw [show W.heap.size = (W.setCell ⟨b, 1, none⟩ (.bool true)).heap.size by simp]; exact lit_cells (W.setCell ⟨b, 1, none⟩ (.bool true)) #[.int .u8 (n % 4294967296 / 16777216), .int .u8 (n % 4294967296 / 65536 % 256), .int .u8 (n % 4294967296 / 256 % 256), .int .u8 (n % 256)] 5)
      case c2 => intro u hu; rw [be_cells] at hu; simp at hu; rcases hu with rfl | rfl | rfl | rfl <;> rfl
      case c3 => unfold maxLen; omega
      case c4 => omega
      case c5 => have hq : (W.setCell ⟨b, 1, none⟩ (.bool true)).heap.size = W.heap.size := by simp
                 have := FX.out.size; simp; omega
      intro v1 W1 hown1 hgrow1 _
      obtain ⟨g1, cap1, rfl⟩ := Joins.ownsRow_form hown1 (by omega)
      have HS := Lib.hid (show s.bs.length + 4 = (s.bs ++ be n).length by rw [List.length_append, be_len])
      rw [← byteCells_app] at hown1
      have HW := Lib.hid (VAt.more (s := ⟨s.bs, true⟩) (bs := s.bs ++ be n) (by have := FX.out.size; simp; omega) hBb ((Below.heap_alloc _ _ _ (heap_lt HX.out)).trans HX.out) (HO.out.alloc _) hgrow1 (by rw [← HS.out]; exact hown1))
      have HF := Lib.hid ((FX.out.alloc (by have := FX.out.size; omega) (.cells #[.int .u8 (n % 4294967296 / 16777216), .int .u8 (n % 4294967296 / 65536 % 256), .int .u8 (n % 4294967296 / 256 % 256), .int .u8 (n % 256)] 5)).trans HW.out.2)
      have hb1 := (hgrow1.block b (by have hq : (W.setCell ⟨b, 1, none⟩ (.bool true)).heap.size = W.heap.size := by simp
                                      have := heap_lt HX.out
                                      simp; omega) (Ne.symm (own_block HO.out HX.out (by decide)))).trans ((Below.heap_alloc _ _ _ (heap_lt HX.out)).trans HX.out)
      clear hown1 hgrow1 c0
      have c0 : W1.cell? ⟨b, 0, none⟩ = some v := by rw [Lib.cell_of_heap hb1]; rfl
      have f0 := Lib.frozen_of_heap hb1 0
      clear hb1
      go_wp2_with fail
      go_returns
      exact ⟨rfl, HW.out.1, HF.out⟩
  · have hw : vNum n s = ⟨s.bs ++ be n, s.full⟩ := by unfold vNum; rw [if_neg hhi]
    rw [hw]
    have HV := Lib.hid h
    have FX := Lib.hid (Fr.refl 70 5 B W)
    have d0 : decide (n < -2147483648) = false := decide_eq_false (by omega)
    have d1 : decide (2147483647 < n) = false := decide_eq_false (by omega)
    clear hw h hhi
    go_enter Tryz.func31, Tryz.ntmps31
    obtain ⟨hBb, v, hbox, hown⟩ := HV.out
    have c0 : W.cell? ⟨b, 0, none⟩ = some v := by rw [Lib.cell_of_heap hbox]; rfl
    have HX := Lib.hid hbox
    have HO := Lib.hid hown
    clear hbox hown HV
    go_wp2_with ((at_builtin; refine wpList_append_own _ rfl (.tmp 20) (.tmp 32) 32 rfl B 5 i00 (.int .u8 0) 1 1 Tryz.underlying32 hi hz0 hz1 hz2 rfl (by decide) v s.bs.length _ rfl (HO.out.alloc _) ⟨W.heap.size, 0, none⟩ 4 4 (byteCells (be n)) rfl (by rw [byteCells_len, be_len]) ?c1 ?c2 ?c3 ?c4 ?c5 ?_))
    case c1 =>
      rw [be_cells]
      exact lit_cells W #[.int .u8 (n % 4294967296 / 16777216), .int .u8 (n % 4294967296 / 65536 % 256), .int .u8 (n % 4294967296 / 256 % 256), .int .u8 (n % 256)] 5
    case c2 => intro u hu; rw [be_cells] at hu; simp at hu; rcases hu with rfl | rfl | rfl | rfl <;> rfl
    case c3 => unfold maxLen; omega
    case c4 => omega
    case c5 => have := FX.out.size; simp; omega
    intro v1 W1 hown1 hgrow1 _
    obtain ⟨g1, cap1, rfl⟩ := Joins.ownsRow_form hown1 (by omega)
    have HS := Lib.hid (show s.bs.length + 4 = (s.bs ++ be n).length by rw [List.length_append, be_len])
    rw [← byteCells_app] at hown1
    have HW := Lib.hid (VAt.more (s := s) (bs := s.bs ++ be n) (by have := FX.out.size; simp; omega) hBb ((Below.heap_alloc _ _ _ (heap_lt HX.out)).trans HX.out) (HO.out.alloc _) hgrow1 (by rw [← HS.out]; exact hown1))
    have HF := Lib.hid ((FX.out.alloc (by have := FX.out.size; omega) (.cells #[.int .u8 (n % 4294967296 / 16777216), .int .u8 (n % 4294967296 / 65536 % 256), .int .u8 (n % 4294967296 / 256 % 256), .int .u8 (n % 256)] 5)).trans HW.out.2)
    have hb1 := (hgrow1.block b (by have := heap_lt HX.out; simp; omega) (Ne.symm (own_block HO.out HX.out (by decide)))).trans ((Below.heap_alloc _ _ _ (heap_lt HX.out)).trans HX.out)
    clear hown1 hgrow1 c0
    have c0 : W1.cell? ⟨b, 0, none⟩ = some v := by rw [Lib.cell_of_heap hb1]; rfl
    have f0 := Lib.frozen_of_heap hb1 0
    clear hb1
    go_wp2_with fail
    go_returns
    exact ⟨rfl, HW.out.1, HF.out⟩

set_option maxHeartbeats 800000 in
set_option maxRecDepth 100000 in
theorem vmany_any (n : Nat) (B b : Nat) (s : Wst) (hs : s.bs.length + 4 ≤ 100000000000000) (W : World) (hB : B ≤ W.heap.size) (h : VAt W B b s) :
    Calls Tryz.prog 25 #[.pointer (some ⟨b, 0, none⟩), .int .i64 n] W fun e W' => e = .returned (.tuple #[]) ∧ VAt W' B b (vMany n s) ∧ Fr 70 5 B W W' := by
  obtain ⟨c1, f0, f1⟩ := h.cells
  by_cases hn : 10000 < n
  · have d0 : decide ((10000 : Int) < (n : Int)) = true := decide_eq_true (by omega)
    have hw : vMany n s = vNum n ⟨s.bs, true⟩ := by unfold vMany; rw [if_pos hn]
    rw [hw]
    have HX := Lib.hid h.fill
    have hc := vnum_any n B b ⟨s.bs, true⟩ hs (W.setCell ⟨b, 1, none⟩ (.bool true)) (Nat.le_trans hB HX.out.2.size) HX.out.1
    clear h hn hw
    go_enter Tryz.func25, Tryz.ntmps25
    go_wp2_with (go_at_call 31; refine hc.mono ?_)
    first | rintro e W1 rfl hw hf | rintro e W1 ⟨rfl, hw, hf⟩
    have HW := Lib.hid hw
    have HF := Lib.hid hf
    clear hw hf hc
    go_wp2_with fail
    go_returns
    exact ⟨rfl, HW.out, HX.out.2.trans HF.out⟩
  · have d0 : decide ((10000 : Int) < (n : Int)) = false := decide_eq_false (by omega)
    have hw : vMany n s = vNum n s := by unfold vMany; rw [if_neg hn]
    rw [hw]
    have hc := vnum_any n B b s hs W hB h
    clear h hn hw
    go_enter Tryz.func25, Tryz.ntmps25
    go_wp2_with (go_at_call 31; refine hc.mono ?_)
    first | rintro e W1 rfl hw hf | rintro e W1 ⟨rfl, hw, hf⟩
    have HW := Lib.hid hw
    have HF := Lib.hid hf
    clear hw hf hc
    go_wp2_with fail
    go_returns
    exact ⟨rfl, HW.out, HF.out⟩

set_option maxHeartbeats 800000 in
set_option maxRecDepth 100000 in
theorem vtext_any (t : ByteArray) (B b : Nat) (s : Wst) (hs : (vText t s).bs.length ≤ 100000000000000) (W : World) (hB : B ≤ W.heap.size) (h : VAt W B b s) :
    Calls Tryz.prog 24 #[.pointer (some ⟨b, 0, none⟩), .string t] W fun e W' => e = .returned (.tuple #[]) ∧ VAt W' B b (vText t s) ∧ Fr 70 5 B W W' := by
  have hl4 : (vMany t.size s).bs.length = s.bs.length + 4 := by rw [vMany_bs, List.length_append, be_len]
  have hl5 : (vText t s).bs.length = s.bs.length + 4 + t.size := by
    show ((vMany t.size s).bs ++ t.data.toList).length = _
    rw [List.length_append, hl4]
    rfl
  rw [hl5] at hs
  have hc := vmany_any t.size B b s (by omega) W hB h
  obtain ⟨i00, hi, hz0, hz1, hz2⟩ := info_parts info5
  obtain ⟨s1, hs1⟩ : ∃ s1, vMany t.size s = s1 := ⟨_, rfl⟩
  have hv : vText t s = ⟨s1.bs ++ t.data.toList, s1.full⟩ := by unfold vText; rw [hs1]
  rw [hs1] at hc hl4
  rw [hv]
  clear h hs1 hv hl5
  go_enter Tryz.func24, Tryz.ntmps24
  go_wp2_with (go_at_call 25; refine hc.mono ?_)
  first | rintro e W1 rfl hw hf | rintro e W1 ⟨rfl, hw, hf⟩
  have hsz1 := hf.size
  obtain ⟨hBb, v, hbox, hown⟩ := hw
  have c0 : W1.cell? ⟨b, 0, none⟩ = some v := by rw [Lib.cell_of_heap hbox]; rfl
  have HX := Lib.hid hbox
  have HO := Lib.hid hown
  have HF := Lib.hid hf
  have HL4 := Lib.hid hl4
  clear hbox hown hf hc hl4
  go_wp2_with (at_builtin; refine Lib.wpList_append_own_string _ rfl (.tmp 12) (.tmp 13) 32 9 rfl B 5 i00 Tryz.underlying32 Tryz.underlying9 hi hz0 hz1 hz2 v s1.bs.length _ rfl HO.out t rfl ?c3 ?c4 ?c5 ?_)
  case c3 => unfold maxLen; rw [HL4.out]; omega
  case c4 => rw [HL4.out]; omega
  case c5 => omega
  intro v1 W2 hown1 hgrow1 _
  obtain ⟨g1, cap1, rfl⟩ := Joins.ownsRow_form hown1 (by rw [HL4.out]; omega)
  rw [strCells_bytes, ← byteCells_app] at hown1
  have HS := Lib.hid (show s1.bs.length + t.size = (s1.bs ++ t.data.toList).length by rw [List.length_append]; rfl)
  have HW := Lib.hid (VAt.more (s := s1) (bs := s1.bs ++ t.data.toList) (by omega) hBb HX.out HO.out hgrow1 (by rw [← HS.out]; exact hown1))
  have hb1 := (hgrow1.block b (heap_lt HX.out) (Ne.symm (own_block HO.out HX.out (by decide)))).trans HX.out
  clear hown1 hgrow1 c0
  have c0 : W2.cell? ⟨b, 0, none⟩ = some v := by rw [Lib.cell_of_heap hb1]; rfl
  have f0 := Lib.frozen_of_heap hb1 0
  clear hb1
  go_wp2_with fail
  go_returns
  exact ⟨rfl, HW.out.1, HF.out.trans HW.out.2⟩

set_option maxHeartbeats 800000 in
set_option maxRecDepth 100000 in
theorem vflag_any (f : Bool) (B b : Nat) (s : Wst) (hs : s.bs.length + 4 ≤ 100000000000000) (W : World) (hB : B ≤ W.heap.size) (h : VAt W B b s) :
    Calls Tryz.prog 68 #[.pointer (some ⟨b, 0, none⟩), .bool f] W fun e W' => e = .returned (.tuple #[]) ∧ VAt W' B b (vFlag f s) ∧ Fr 70 5 B W W' := by
  have hc := vnum_any (if f then 1 else 0) B b s hs W hB h
  unfold vFlag
  clear h
  cases f
  · simp only [Bool.false_eq_true, if_false] at hc ⊢
    go_enter Tryz.func68, Tryz.ntmps68
    go_wp2_with (go_at_call 31; refine hc.mono ?_)
    first | rintro e W1 rfl hw hf | rintro e W1 ⟨rfl, hw, hf⟩
    have HW := Lib.hid hw
    have HF := Lib.hid hf
    clear hw hf hc
    go_wp2_with fail
    go_returns
    exact ⟨rfl, HW.out, HF.out⟩
  · simp only [if_true] at hc ⊢
    go_enter Tryz.func68, Tryz.ntmps68
    go_wp2_with (go_at_call 31; refine hc.mono ?_)
    first | rintro e W1 rfl hw hf | rintro e W1 ⟨rfl, hw, hf⟩
    have HW := Lib.hid hw
    have HF := Lib.hid hf
    clear hw hf hc
    go_wp2_with fail
    go_returns
    exact ⟨rfl, HW.out, HF.out⟩
end Go.Proofs.YtoaohoeghlidaaaGreatDoor
