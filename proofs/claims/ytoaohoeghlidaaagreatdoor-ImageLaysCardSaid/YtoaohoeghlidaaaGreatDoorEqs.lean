/-
  What is one answers so: codes, classes.
-/
import Derived.Test.YtoaohoeghlidaaaGreatDoorEq
namespace Go.Proofs.YtoaohoeghlidaaaGreatDoor
open Go.ChangeShapes Go.WideShapes Go.ChangeAt Go.RowKit

theorem row_lim {T : Type} {sh : Sh T} {lim : Nat} {W W' : World} {a : Option Addr} {l : Nat} {xs : List T} (h : Row sh (fun k => k < lim) W a l xs) (hb : Below lim W W') : Row sh (fun k => k < lim) W' a l xs := h.keep (fun k hk => hb.block k hk)

set_option maxHeartbeats 1600000 in
set_option maxRecDepth 100000 in
theorem eq_code : EqT 43 mkA shCode := by
  intro lim W vs us x h1 h2 hl
  obtain ⟨a5, l5, c5, rfl, r5⟩ := code_is.1 h1
  obtain ⟨p5, q5, r5', rfl, s5⟩ := code_is.1 h2
  have hB := ((Below.refl lim W).alloc hl (.cells #[.int .i64 x.cls, .string x.params, .string x.locals, .bool x.ret, .int .i64 x.stack, .slice a5 l5 c5] 61)).alloc (by simp; omega) (.cells #[.int .i64 x.cls, .string x.params, .string x.locals, .bool x.ret, .int .i64 x.stack, .slice p5 q5 r5'] 61)
  have HBW := Lib.hid (((Below.refl W.heap.size W).alloc (Nat.le_refl _) (.cells #[.int .i64 x.cls, .string x.params, .string x.locals, .bool x.ret, .int .i64 x.stack, .slice a5 l5 c5] 61)).alloc (by simp) (.cells #[.int .i64 x.cls, .string x.params, .string x.locals, .bool x.ret, .int .i64 x.stack, .slice p5 q5 r5'] 61))
  have hc := eq_ops lim ((W.alloc (.cells #[.int .i64 x.cls, .string x.params, .string x.locals, .bool x.ret, .int .i64 x.stack, .slice a5 l5 c5] 61)).alloc (.cells #[.int .i64 x.cls, .string x.params, .string x.locals, .bool x.ret, .int .i64 x.stack, .slice p5 q5 r5'] 61)) _ _ x.ops ⟨a5, l5, c5, rfl, row_lim r5 hB⟩ ⟨p5, q5, r5', rfl, row_lim s5 hB⟩
  clear h1 h2 r5 s5 hB hl
  show Calls Tryz.prog 43 #[.agg #[.int .i64 x.cls, .string x.params, .string x.locals, .bool x.ret, .int .i64 x.stack, .slice a5 l5 c5], .agg #[.int .i64 x.cls, .string x.params, .string x.locals, .bool x.ret, .int .i64 x.stack, .slice p5 q5 r5']] W _
  go_enter Tryz.func43, Tryz.ntmps43
  go_wp2_with (go_at_call 77; refine hc.mono ?_)
  rintro e W1 ⟨rfl, m, hW1⟩
  have HB1 := Lib.hid (show Below W.heap.size W W1 by rw [hW1]; exact ⟨HBW.out.os, HBW.out.tape, HBW.out.output, HBW.out.size, HBW.out.block⟩)
  clear hW1 hc
  go_wp2_with fail
  go_returns
  exact ⟨rfl, HB1.out⟩

theorem below_drew {B : Nat} {a w : World} (h : Below B a w) (n : Nat) : Below B a (w.drewN n) := ⟨h.os, h.tape, h.output, h.size, h.block⟩
set_option maxHeartbeats 3200000 in
set_option maxRecDepth 100000 in
theorem eq_desc : EqT 76 mkA shDesc := by
  intro lim W vs us x h1 h2 hl
  obtain ⟨a2, l2, c2, a3, l3, c3, a4, l4, c4, a5, l5, c5, rfl, f2, f3, f4, f5⟩ := desc_is.1 h1
  obtain ⟨p2, q2, r2, p3, q3, r3, p4, q4, r4, p5, q5, r5, rfl, g2, g3, g4, g5⟩ := desc_is.1 h2
  obtain rfl : l5 = q5 := f5.1.symm.trans g5.1
  have hbx : ((W.alloc (.cells #[.int .i64 x.base, .string x.fields, .slice a2 l2 c2, .slice a3 l3 c3, .slice a4 l4 c4, .slice a5 l5 c5] 56)).alloc (.cells #[.int .i64 x.base, .string x.fields, .slice p2 q2 r2, .slice p3 q3 r3, .slice p4 q4 r4, .slice p5 l5 r5] 56)).heap[W.heap.size]? = some (.cells #[.int .i64 x.base, .string x.fields, .slice a2 l2 c2, .slice a3 l3 c3, .slice a4 l4 c4, .slice a5 l5 c5] 56 (0, 0)) := (Below.heap_alloc _ _ _ (by simp)).trans (heap_alloc_new W _)
  have hby : ((W.alloc (.cells #[.int .i64 x.base, .string x.fields, .slice a2 l2 c2, .slice a3 l3 c3, .slice a4 l4 c4, .slice a5 l5 c5] 56)).alloc (.cells #[.int .i64 x.base, .string x.fields, .slice p2 q2 r2, .slice p3 q3 r3, .slice p4 q4 r4, .slice p5 l5 r5] 56)).heap[W.heap.size + 1]? = some (.cells #[.int .i64 x.base, .string x.fields, .slice p2 q2 r2, .slice p3 q3 r3, .slice p4 q4 r4, .slice p5 l5 r5] 56 (0, 0)) := by
    have := heap_alloc_new (W.alloc (.cells #[.int .i64 x.base, .string x.fields, .slice a2 l2 c2, .slice a3 l3 c3, .slice a4 l4 c4, .slice a5 l5 c5] 56)) (.cells #[.int .i64 x.base, .string x.fields, .slice p2 q2 r2, .slice p3 q3 r3, .slice p4 q4 r4, .slice p5 l5 r5] 56)
    rw [show (W.alloc (.cells #[.int .i64 x.base, .string x.fields, .slice a2 l2 c2, .slice a3 l3 c3, .slice a4 l4 c4, .slice a5 l5 c5] 56)).heap.size = W.heap.size + 1 by simp] at this
    exact this
  have HB0 := Lib.hid (((Below.refl W.heap.size W).alloc (Nat.le_refl _) (.cells #[.int .i64 x.base, .string x.fields, .slice a2 l2 c2, .slice a3 l3 c3, .slice a4 l4 c4, .slice a5 l5 c5] 56)).alloc (by simp) (.cells #[.int .i64 x.base, .string x.fields, .slice p2 q2 r2, .slice p3 q3 r3, .slice p4 q4 r4, .slice p5 l5 r5] 56))
  have hml : l5 ≤ 9223372036854775807 := by have := f5.le; unfold maxLen at this; omega
  have F2 := Lib.hid f2
  have F3 := Lib.hid f3
  have F4 := Lib.hid f4
  have F5 := Lib.hid f5
  have G2 := Lib.hid g2
  have G3 := Lib.hid g3
  have G4 := Lib.hid g4
  have G5 := Lib.hid g5
  have HX0 := Lib.hid hbx
  have HY0 := Lib.hid hby
  have HL := Lib.hid hl
  have hll : ((l5 : Int) != (l5 : Int)) = false := by simp
  clear h1 h2 f2 f3 f4 f5 g2 g3 g4 g5 hl hbx hby
  show Calls Tryz.prog 76 #[.agg #[.int .i64 x.base, .string x.fields, .slice a2 l2 c2, .slice a3 l3 c3, .slice a4 l4 c4, .slice a5 l5 c5], .agg #[.int .i64 x.base, .string x.fields, .slice p2 q2 r2, .slice p3 q3 r3, .slice p4 q4 r4, .slice p5 l5 r5]] W _
  go_enter Tryz.func76, Tryz.ntmps76
  go_wp2_with (go_at_call 73; refine (eq_ints lim _ _ _ x.init ⟨a2, l2, c2, rfl, row_lim F2.out (HB0.out.mono HL.out)⟩ ⟨p2, q2, r2, rfl, row_lim G2.out (HB0.out.mono HL.out)⟩).mono ?_)
  rintro e W1 ⟨rfl, m1, hW1⟩
  have HX1 := Lib.hid (show W1.heap[W.heap.size]? = some (.cells #[.int .i64 x.base, .string x.fields, .slice a2 l2 c2, .slice a3 l3 c3, .slice a4 l4 c4, .slice a5 l5 c5] 56 (0, 0)) by rw [hW1]; exact HX0.out)
  have HY1 := Lib.hid (show W1.heap[W.heap.size + 1]? = some (.cells #[.int .i64 x.base, .string x.fields, .slice p2 q2 r2, .slice p3 q3 r3, .slice p4 q4 r4, .slice p5 l5 r5] 56 (0, 0)) by rw [hW1]; exact HY0.out)
  have HB1 := Lib.hid (show Below W.heap.size W W1 by rw [hW1]; exact below_drew HB0.out _)
  clear hW1
  have d3 : W1.cell? ⟨W.heap.size, 3, none⟩ = some (.slice a3 l3 c3) := by rw [Lib.cell_of_heap HX1.out]; rfl
  have e3 : W1.cell? ⟨W.heap.size + 1, 3, none⟩ = some (.slice p3 q3 r3) := by rw [Lib.cell_of_heap HY1.out]; rfl
  go_wp2_with (go_at_call 73; refine (eq_ints lim _ _ _ x.vtable ⟨a3, l3, c3, rfl, row_lim F3.out (HB1.out.mono HL.out)⟩ ⟨p3, q3, r3, rfl, row_lim G3.out (HB1.out.mono HL.out)⟩).mono ?_)
  rintro e W2 ⟨rfl, m2, hW2⟩
  clear d3 e3
  have HX2 := Lib.hid (show W2.heap[W.heap.size]? = some (.cells #[.int .i64 x.base, .string x.fields, .slice a2 l2 c2, .slice a3 l3 c3, .slice a4 l4 c4, .slice a5 l5 c5] 56 (0, 0)) by rw [hW2]; exact HX1.out)
  have HY2 := Lib.hid (show W2.heap[W.heap.size + 1]? = some (.cells #[.int .i64 x.base, .string x.fields, .slice p2 q2 r2, .slice p3 q3 r3, .slice p4 q4 r4, .slice p5 l5 r5] 56 (0, 0)) by rw [hW2]; exact HY1.out)
  have HB2 := Lib.hid (show Below W.heap.size W W2 by rw [hW2]; exact below_drew HB1.out _)
  clear hW2
  have d4 : W2.cell? ⟨W.heap.size, 4, none⟩ = some (.slice a4 l4 c4) := by rw [Lib.cell_of_heap HX2.out]; rfl
  have e4 : W2.cell? ⟨W.heap.size + 1, 4, none⟩ = some (.slice p4 q4 r4) := by rw [Lib.cell_of_heap HY2.out]; rfl
  go_wp2_with (go_at_call 75; refine (eq_texts lim _ _ _ x.sigs ⟨a4, l4, c4, rfl, row_lim F4.out (HB2.out.mono HL.out)⟩ ⟨p4, q4, r4, rfl, row_lim G4.out (HB2.out.mono HL.out)⟩).mono ?_)
  rintro e W3 ⟨rfl, m3, hW3⟩
  clear d4 e4
  have HX3 := Lib.hid (show W3.heap[W.heap.size]? = some (.cells #[.int .i64 x.base, .string x.fields, .slice a2 l2 c2, .slice a3 l3 c3, .slice a4 l4 c4, .slice a5 l5 c5] 56 (0, 0)) by rw [hW3]; exact HX2.out)
  have HY3 := Lib.hid (show W3.heap[W.heap.size + 1]? = some (.cells #[.int .i64 x.base, .string x.fields, .slice p2 q2 r2, .slice p3 q3 r3, .slice p4 q4 r4, .slice p5 l5 r5] 56 (0, 0)) by rw [hW3]; exact HY2.out)
  have HB3 := Lib.hid (show Below W.heap.size W W3 by rw [hW3]; exact below_drew HB2.out _)
  clear hW3
  have d5 : W3.cell? ⟨W.heap.size, 5, none⟩ = some (.slice a5 l5 c5) := by rw [Lib.cell_of_heap HX3.out]; rfl
  have e5 : W3.cell? ⟨W.heap.size + 1, 5, none⟩ = some (.slice p5 l5 r5) := by rw [Lib.cell_of_heap HY3.out]; rfl
  go_wp2_with fail
  go_loopw [5] (fun i wr => ∃ k m : Nat, k ≤ l5 ∧ i = .int .i64 k ∧ wr = W3.drewN m) (fun i _ => l5 - (intOf i).toNat)
  case atStart => exact ⟨0, 0, Nat.zero_le _, rfl, rfl⟩
  case round =>
    obtain ⟨k, m, hk, rfl, hwr⟩ := hrel
    have HWR := Lib.hid hwr
    have hB := below_drew HB3.out m
    rw [← hwr] at hB
    have d5 : wr.cell? ⟨W.heap.size, 5, none⟩ = some (.slice a5 l5 c5) := by rw [hwr]; exact d5
    have e5 : wr.cell? ⟨W.heap.size + 1, 5, none⟩ = some (.slice p5 l5 r5) := by rw [hwr]; exact e5
    by_cases hlt : k < l5
    · obtain ⟨ba, oa, t, vs, rfl, _, hx, hba, iA⟩ := (row_lim F5.out (hB.mono HL.out)).item hlt
      obtain ⟨bb, ob, t', us, rfl, _, hx', hbb, iB⟩ := (row_lim G5.out (hB.mono HL.out)).item hlt
      obtain rfl := Option.some.inj (hx.symm.trans hx')
      have i0 : (k : Int) < (l5 : Int) := by omega
      have i1 : (0 : Int) ≤ (k : Int) := by omega
      obtain ⟨u1, v1, w1, rfl, rA⟩ := table_is.1 iA
      obtain ⟨u2, v2, w2, rfl, rB⟩ := table_is.1 iB
      have x0 : wr.cell? ⟨ba, oa + k * 2, none⟩ = some (.int .i64 t.face) := hba 0 _ rfl
      have x1 : wr.cell? ⟨ba, oa + k * 2 + 1, none⟩ = some (.slice u1 v1 w1) := hba 1 _ rfl
      have y0 : wr.cell? ⟨bb, ob + k * 2, none⟩ = some (.int .i64 t.face) := hbb 0 _ rfl
      have y1 : wr.cell? ⟨bb, ob + k * 2 + 1, none⟩ = some (.slice u2 v2 w2) := hbb 1 _ rfl
      have hq : ∀ m, Calls Tryz.prog 73 #[.slice u1 v1 w1, .slice u2 v2 w2] (wr.drewN m) fun e W' => e = .returned (.bool true) ∧ ∃ n, W' = wr.drewN n := fun m => eq_ints.quiet (lim := lim) (vs := [.slice u1 v1 w1]) (us := [.slice u2 v2 w2]) ⟨u1, v1, w1, rfl, rA⟩ ⟨u2, v2, w2, rfl, rB⟩ m
      have HQ := Lib.hid hq
      clear hba hbb hx hx' iA iB rA rB hwr hB hq
      go_wp2_with fail
      go_quiet (exact HQ.out _)
      go_wp2_with fail
      refine ⟨⟨k + 1, m + nq, ?_, ?_, ?_⟩, ?_⟩
      · omega
      · go_num
      · rw [HWR.out, World.drewN_drewN]
      · simp [intOf]; omega
    · obtain rfl : k = l5 := by omega
      have HBF := Lib.hid hB
      clear hwr hB
      go_wp2_with fail
      go_returns
      exact ⟨rfl, HBF.out⟩
end Go.Proofs.YtoaohoeghlidaaaGreatDoor
