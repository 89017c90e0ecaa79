/-
  Lay: the bytes of an image.
-/
import Derived.Test.YtoaohoeghlidaaaGreatDoorWImg
import Derived.Test.YtoaohoeghlidaaaGreatDoorErr
import Derived.Laws.Rows
namespace Go.Proofs.YtoaohoeghlidaaaGreatDoor
open Go.ChangeShapes Go.WideShapes Go.ChangeAt Go.RowKit

theorem size29w : (Tryz.prog.info? 29).map (·.size) = some 12 := by kernel_rfl
/-- what Lay answers -/
def Laid (W' : World) (lo : Nat) (x : ImgD) (e : Ending) : Prop :=
  ((layOf x).full = true ∧ ∃ g, e = .returned (.tuple #[.slice none 0 0, .iface 122 (.pointer (some ⟨g, 0, none⟩))]) ∧ W'.heap[g]? = some (.cells #[.int .i64 24, .int .i64 0, .nilIface] 124 (0, 0)))
  ∨ ((layOf x).full = false ∧ ∃ g cap, e = .returned (.tuple #[.slice (some ⟨g, 0, none⟩) (layOf x).bs.length cap, .nilIface]) ∧ W'.ownsRow lo 5 1 (.slice (some ⟨g, 0, none⟩) (layOf x).bs.length cap) (layOf x).bs.length (byteCells (layOf x).bs))

set_option maxHeartbeats 3200000 in
set_option maxRecDepth 100000 in
theorem lay_any (W : World) (vs : List Value) (x : ImgD) (h : shImg.Is (fun k => k < W.heap.size) W vs x) :
    Calls Tryz.prog 9 #[.agg vs.toArray] W fun e W' => Laid W' W.heap.size x e ∧ Below W.heap.size W W' := by
  have H := Lib.hid h
  obtain ⟨a0, l0, c0, a1, l1, c1, a2, l2, c2, a3, l3, c3, a5, l5, c5, a6, l6, c6, a7, l7, c7, a8, l8, c8, a9, l9, c9, rfl, -⟩ := img_is.1 h
  clear h
  have hX0 : (W.alloc (.cells #[.slice a0 l0 c0, .slice a1 l1 c1, .slice a2 l2 c2, .slice a3 l3 c3, .string x.globals, .slice a5 l5 c5, .slice a6 l6 c6, .slice a7 l7 c7, .slice a8 l8 c8, .slice a9 l9 c9, .int .i64 x.d, .int .i64 x.w] 29)).heap[W.heap.size]? = some (.cells #[.slice a0 l0 c0, .slice a1 l1 c1, .slice a2 l2 c2, .slice a3 l3 c3, .string x.globals, .slice a5 l5 c5, .slice a6 l6 c6, .slice a7 l7 c7, .slice a8 l8 c8, .slice a9 l9 c9, .int .i64 x.d, .int .i64 x.w] 29 (0, 0)) := heap_alloc_new W _
  have hsV : (W.alloc (.cells #[.slice a0 l0 c0, .slice a1 l1 c1, .slice a2 l2 c2, .slice a3 l3 c3, .string x.globals, .slice a5 l5 c5, .slice a6 l6 c6, .slice a7 l7 c7, .slice a8 l8 c8, .slice a9 l9 c9, .int .i64 x.d, .int .i64 x.w] 29)).heap.size = W.heap.size + 1 := by simp
  have HF1 := Lib.hid (((Fr.refl 64 5 W.heap.size W).alloc (Nat.le_refl _) (.cells #[.slice a0 l0 c0, .slice a1 l1 c1, .slice a2 l2 c2, .slice a3 l3 c3, .string x.globals, .slice a5 l5 c5, .slice a6 l6 c6, .slice a7 l7 c7, .slice a8 l8 c8, .slice a9 l9 c9, .int .i64 x.d, .int .i64 x.w] 29)).alloc (by simp) (.cells #[.slice none 0 0, .bool false] 64))
  have HX1 := Lib.hid ((Below.heap_alloc (W.alloc (.cells #[.slice a0 l0 c0, .slice a1 l1 c1, .slice a2 l2 c2, .slice a3 l3 c3, .string x.globals, .slice a5 l5 c5, .slice a6 l6 c6, .slice a7 l7 c7, .slice a8 l8 c8, .slice a9 l9 c9, .int .i64 x.d, .int .i64 x.w] 29)) (.cells #[.slice none 0 0, .bool false] 64) W.heap.size (by simp)).trans hX0)
  have hw : WAt ((W.alloc (.cells #[.slice a0 l0 c0, .slice a1 l1 c1, .slice a2 l2 c2, .slice a3 l3 c3, .string x.globals, .slice a5 l5 c5, .slice a6 l6 c6, .slice a7 l7 c7, .slice a8 l8 c8, .slice a9 l9 c9, .int .i64 x.d, .int .i64 x.w] 29)).alloc (.cells #[.slice none 0 0, .bool false] 64)) W.heap.size (W.heap.size + 1) ⟨[], false⟩ := ⟨by omega, .slice none 0 0, by have := heap_alloc_new (W.alloc (.cells #[.slice a0 l0 c0, .slice a1 l1 c1, .slice a2 l2 c2, .slice a3 l3 c3, .string x.globals, .slice a5 l5 c5, .slice a6 l6 c6, .slice a7 l7 c7, .slice a8 l8 c8, .slice a9 l9 c9, .int .i64 x.d, .int .i64 x.w] 29)) (.cells #[.slice none 0 0, .bool false] 64); rw [hsV] at this; exact this, World.ownsRow_nil _ _ _ _⟩
  have hc := text_any ⟨#[103, 111, 118, 45, 49]⟩ W.heap.size (W.heap.size + 1) ⟨[], false⟩ (by simp) ((W.alloc (.cells #[.slice a0 l0 c0, .slice a1 l1 c1, .slice a2 l2 c2, .slice a3 l3 c3, .string x.globals, .slice a5 l5 c5, .slice a6 l6 c6, .slice a7 l7 c7, .slice a8 l8 c8, .slice a9 l9 c9, .int .i64 x.d, .int .i64 x.w] 29)).alloc (.cells #[.slice none 0 0, .bool false] 64)) (by simp; omega) hw
  clear hw hX0 hsV
  show Calls Tryz.prog 9 #[.agg #[.slice a0 l0 c0, .slice a1 l1 c1, .slice a2 l2 c2, .slice a3 l3 c3, .string x.globals, .slice a5 l5 c5, .slice a6 l6 c6, .slice a7 l7 c7, .slice a8 l8 c8, .slice a9 l9 c9, .int .i64 x.d, .int .i64 x.w]] W _
  go_enter Tryz.func9, Tryz.ntmps9
  go_wp2_with (go_at_call 21; refine hc.mono ?_)
  rintro e W1 ⟨rfl, hw1, hf1⟩
  have hX2 := (hf1.oth _ _ _ _ HX1.out (by decide) (by decide)).trans HX1.out
  have HX2 := Lib.hid hX2
  have HF2 := Lib.hid (HF1.out.trans hf1)
  have hml : (wText magic ⟨[], false⟩).bs.length = 9 := by rfl
  have hI := shImg.keep (fun k hk => (HF1.out.trans hf1).below.block k hk) H.out
  have hc2 := wr_img W.heap.size (W.heap.size + 1) (wText magic ⟨[], false⟩) _ x W1 hI hw1 (by rw [hml]; omega) (by have := HF2.out.size; omega)
  clear hc hw1 hf1 hX2 hI
  go_wp2_with (first | (refine wpList_load_row rfl 29 (.tmp 1) rfl W.heap.size rfl 29 #[.slice a0 l0 c0, .slice a1 l1 c1, .slice a2 l2 c2, .slice a3 l3 c3, .string x.globals, .slice a5 l5 c5, .slice a6 l6 c6, .slice a7 l7 c7, .slice a8 l8 c8, .slice a9 l9 c9, .int .i64 x.d, .int .i64 x.w] (0, 0) _ HX2.out Tryz.underlying29 rfl size29w ?_) | (go_at_call 22; refine hc2.mono ?_))
  rintro e W2 ⟨rfl, hw2, hf2⟩
  obtain ⟨s, hs⟩ : ∃ s, layOf x = s := ⟨_, rfl⟩
  have hw2' : WAt W2 W.heap.size (W.heap.size + 1) s := by rw [← hs]; exact hw2
  obtain ⟨c1', f0, f1⟩ := hw2'.cells
  have HF3 := Lib.hid (HF2.out.trans hf2)
  have HS := Lib.hid hs
  have HW2 := Lib.hid hw2'
  clear hc2 hw2 hf2 hw2' hs
  cases hfull : s.full with
  | true =>
    rw [hfull] at c1'
    have HFL := Lib.hid hfull
    clear hfull
    go_wp2_with (go_at_call 23; refine (new_any 24 0 _).mono ?_)
    rintro e W3 ⟨rfl, hW3⟩
    have HX3 := Lib.hid (show W3.heap[W2.heap.size]? = some (.cells #[.int .i64 24, .int .i64 0, .nilIface] 124 (0, 0)) by rw [hW3]; exact heap_alloc_new W2 _)
    have HB3 := Lib.hid (show Below W.heap.size W W3 by rw [hW3]; exact HF3.out.below.alloc HF3.out.size _)
    clear hW3
    go_wp2_with fail
    go_returns
    exact ⟨.inl ⟨by rw [HS.out]; exact HFL.out, _, rfl, HX3.out⟩, HB3.out⟩
  | false =>
    rw [hfull] at c1'
    obtain ⟨_, v, hb, hown⟩ := HW2.out
    have c0' : W2.cell? ⟨(W.heap.size + 1), 0, none⟩ = some v := by rw [Lib.cell_of_heap hb]; rfl
    have HFL := Lib.hid hfull
    have hne : 0 < s.bs.length := by
      have h1 := (lay_fits (x := x) (by rw [HS.out]; exact hfull))
      obtain ⟨l, _, h2⟩ := h1
      rw [HS.out] at h2
      rw [h2, List.length_append]
      show 0 < 9 + l.length
      omega
    obtain ⟨g, cap, rfl⟩ := Joins.ownsRow_form hown hne
    have HO := Lib.hid hown
    clear hfull hb hown hne
    go_wp2_with fail
    go_returns
    refine ⟨.inr ⟨by rw [HS.out]; exact HFL.out, g, cap, by rw [HS.out]; rfl, by rw [HS.out]; exact HO.out⟩, HF3.out.below⟩
end Go.Proofs.YtoaohoeghlidaaaGreatDoor
