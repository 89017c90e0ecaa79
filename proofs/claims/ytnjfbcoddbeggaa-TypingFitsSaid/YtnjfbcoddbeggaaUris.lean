/-
  The document: who is one of whom.
-/
import Derived.Test.YtnjfbcoddbeggaaUrfaces
namespace Go.Proofs.Ytnjfbcoddbeggaa
open Go Go.ChangeShapes Go.WideShapes Go.ChangeAt Go.RowKit Go.Joins

set_option maxHeartbeats 6400000 in
set_option maxRecDepth 100000 in
theorem ris_any (W : World) (lim : Nat) (a : Option Addr) (l c : Nat) (ds : List DeclU) (hr : Row shDecl (fun k => k < lim) W a l ds) (hl : lim ≤ W.heap.size) (hf : l ≤ 16) (hf8 : Few ds) (s u : ByteArray) :
    Calls Try.prog 25 #[.agg #[.slice a l c], .string s, .string u] W fun e W' => e = .returned (.bool (isU ds s u)) ∧ Below W.heap.size W W' := by
  have hb0 := (Below.refl W.heap.size W).alloc (Nat.le_refl _) (.cells #[.slice a l c] 24)
  have hx0 : (W.alloc (.cells #[.slice a l c] 24)).heap[W.heap.size]? = some (.cells #[.slice a l c] 24 (0, 0)) := heap_alloc_new W _
  have HX0 := Lib.hid hx0
  have HB0 := Lib.hid hb0
  have HL := Lib.hid hl
  have HR := Lib.hid hr
  have HF8 := Lib.hid hf8
  have hs0 : (W.alloc (.cells #[.slice a l c] 24)).heap.size = W.heap.size + 1 := by simp
  have hrow := fun (V : World) (hb : Below W.heap.size W V) => row_lim hr (hb.mono hl)
  have hsz := fun (V : World) (hb : Below W.heap.size W V) => Nat.le_trans hl hb.size
  have HCH := Lib.hid fun (V : World) (hb : Below W.heap.size W V) => rchain_any V lim a l c ds (hrow V hb) (hsz V hb) hf (findU ds s)
  have HFC := Lib.hid fun (V : World) (hb : Below W.heap.size W V) => rfaces_any V lim a l c ds (hrow V hb) (hsz V hb) hf hf8 (findU ds s)
  have hlt := fun (V : World) (hb : Below W.heap.size W V) (k : Nat) (hk : k < lim) => (show k < V.heap.size by have := hsz V hb; omega)
  have HF1 := Lib.hid fun (V : World) (hb : Below W.heap.size W V) => rfind_any (fun k => k < lim) V (hlt V hb) a l c ds (hrow V hb) s
  have HF2 := Lib.hid fun (V : World) (hb : Below W.heap.size W V) => rfind_any (fun k => k < lim) V (hlt V hb) a l c ds (hrow V hb) u
  have HKD := Lib.hid fun (V : World) (hb : Below W.heap.size W V) => kind_any (fun k => k < lim) V (hlt V hb) a l c ds (hrow V hb) (findU ds s)
  have h1 := HF1.out _ hb0
  have k1 := kind_has (ds := ds) (d := findU ds s) (k := 1) (by omega)
  have k2 := kind_has (ds := ds) (d := findU ds s) (k := 2) (by omega)
  have f0 : (W.alloc (.cells #[.slice a l c] 24)).cell? ⟨W.heap.size, 0, none⟩ = some (.slice a l c) := by rw [Lib.cell_of_heap hx0]; rfl
  have HG := Lib.hid (show isU ds s u = ((hasU ds (findU ds s) 2 || hasU ds (findU ds s) 1) && (decide (s = u) || (chainU ds (findU ds s)).contains (findU ds u) || (facesU ds (findU ds s)).contains (findU ds u))) from rfl)
  generalize isU ds s u = G at *
  generalize hfs : findU ds s = fs at *
  generalize hfu : findU ds u = fu at *
  generalize hkd : kindU ds fs = kd at *
  clear hrow hsz hlt hx0 hr hl hf8 hb0
  go_enter Try.func25, Try.ntmps25
  go_wp2_with (go_at_call 20; refine h1.mono ?_)
  rintro e V1 ⟨rfl, hb1⟩
  have HB1 := Lib.hid (HB0.out.trans (hb1.mono (by rw [hs0]; omega)))
  have HX1 := Lib.hid ((hb1.block W.heap.size (by rw [hs0]; omega)).trans HX0.out)
  clear h1 f0 hb1
  have f1 : V1.cell? ⟨W.heap.size, 0, none⟩ = some (.slice a l c) := by rw [Lib.cell_of_heap HX1.out]; rfl
  have h2 := HKD.out V1 HB1.out
  go_wp2_with (go_at_call 48; refine h2.mono ?_)
  rintro e V2 ⟨rfl, hb2⟩
  have hs1 := heap_lt HX1.out
  have HB2 := Lib.hid (HB1.out.trans (hb2.mono (by omega)))
  have HX2 := Lib.hid ((hb2.block W.heap.size hs1).trans HX1.out)
  clear h2 f1 hb2
  have n2 : (kd != 2) = !hasU ds fs 2 := by rw [bne, k2]
  have n1 : (kd != 1) = !hasU ds fs 1 := by rw [bne, k1]
  have f2 : V2.cell? ⟨W.heap.size, 0, none⟩ = some (.slice a l c) := by rw [Lib.cell_of_heap HX2.out]; rfl
  have h3 := HF2.out V2 HB2.out
  have hs2 := heap_lt HX2.out
  clear k1 k2 hfs hfu
  cases c2 : hasU ds fs 2 with
  | true =>
    have HG2 := Lib.hid (HG.out.trans (by rw [c2]; simp : _ = (decide (s = u) || (chainU ds fs).contains fu || (facesU ds fs).contains fu)))
    rw [c2] at n2
    clear c2 n1
    go_wp2_with (go_at_call 20; refine h3.mono ?_)
    rintro e V3 ⟨rfl, hb3⟩
    have HB3 := Lib.hid (HB2.out.trans (hb3.mono (by omega)))
    have HX3 := Lib.hid ((hb3.block W.heap.size hs2).trans HX2.out)
    clear h3 f2 hb3
    have f3 : V3.cell? ⟨W.heap.size, 0, none⟩ = some (.slice a l c) := by rw [Lib.cell_of_heap HX3.out]; rfl
    have h4 := HCH.out V3 HB3.out
    have hs3 := heap_lt HX3.out
    by_cases he : s = u
    · have e1 := str_yes he
      have HG3 := HG2.out.trans (by rw [decide_eq_true he]; simp : _ = true)
      subst HG3
      clear h4 f3
      go_wp2_with fail
      go_returns
      exact ⟨rfl, HB3.out⟩
    · have e1 := str_no he
      have HG3 := Lib.hid (HG2.out.trans (by rw [decide_eq_false he]; simp : _ = ((chainU ds fs).contains fu || (facesU ds fs).contains fu)))
      go_wp2_with (go_at_call 22; refine h4.mono ?_)
      rintro e V4 ⟨cv, rfl, hown, hb4⟩
      have HB4 := Lib.hid (HB3.out.trans (hb4.mono (by omega)))
      have HX4 := Lib.hid ((hb4.block W.heap.size hs3).trans HX3.out)
      obtain ⟨ca, cl, cc, rfl⟩ : ∃ ca cl cc, cv = .slice ca cl cc := by
        rcases ownsRow_forms hown with ⟨h, _⟩ | ⟨g, cap, h⟩
        · exact ⟨_, _, _, h⟩
        · exact ⟨_, _, _, h⟩
      have h5 := rhas_any (fun _ => True) V4 ca cl cc (chainU ds fs) (ints_row hown (fun _ _ => trivial)).1 fu
      clear h4 f3 hown hb4
      have f4 : V4.cell? ⟨W.heap.size, 0, none⟩ = some (.slice a l c) := by rw [Lib.cell_of_heap HX4.out]; rfl
      have h6 := HFC.out V4 HB4.out
      have hs4 := heap_lt HX4.out
      cases c5 : (chainU ds fs).contains fu with
      | true =>
        rw [c5] at h5
        have HG4 := HG3.out.trans (by rw [c5]; simp : _ = true)
        subst HG4
        clear h6 f4 c5
        go_wp2_with (go_at_call 53; refine h5.mono ?_)
        rintro e V5 ⟨rfl, rfl⟩
        go_wp2_with fail
        go_returns
        exact ⟨rfl, HB4.out⟩
      | false =>
        rw [c5] at h5
        have HG4 := Lib.hid (HG3.out.trans (by rw [c5]; simp : _ = (facesU ds fs).contains fu))
        clear c5
        go_wp2_with (go_at_call 53; refine h5.mono ?_)
        rintro e V5 ⟨rfl, rfl⟩
        go_wp2_with (go_at_call 23; refine h6.mono ?_)
        rintro e V5 ⟨fv, rfl, hown, hb5⟩
        have HB5 := Lib.hid (HB4.out.trans (hb5.mono (by omega)))
        obtain ⟨fa, fl, fc, rfl⟩ : ∃ fa fl fc, fv = .slice fa fl fc := by
          rcases ownsRow_forms hown with ⟨h, _⟩ | ⟨g, cap, h⟩
          · exact ⟨_, _, _, h⟩
          · exact ⟨_, _, _, h⟩
        have h7 := rhas_any (fun _ => True) V5 fa fl fc (facesU ds fs) (ints_row hown (fun _ _ => trivial)).1 fu
        rw [← HG4.out] at h7
        clear h6 h5 f4 hown hb5
        go_wp2_with (go_at_call 53; refine h7.mono ?_)
        rintro e V6 ⟨rfl, rfl⟩
        go_wp2_with fail
        go_returns
        exact ⟨rfl, HB5.out⟩
  | false =>
    rw [c2] at n2
    cases c1 : hasU ds fs 1 with
    | true =>
      have HG2 := Lib.hid (HG.out.trans (by rw [c2, c1]; simp : _ = (decide (s = u) || (chainU ds fs).contains fu || (facesU ds fs).contains fu)))
      rw [c1] at n1
      clear c2 c1
      go_wp2_with (go_at_call 20; refine h3.mono ?_)
      rintro e V3 ⟨rfl, hb3⟩
      have HB3 := Lib.hid (HB2.out.trans (hb3.mono (by omega)))
      have HX3 := Lib.hid ((hb3.block W.heap.size hs2).trans HX2.out)
      clear h3 f2 hb3
      have f3 : V3.cell? ⟨W.heap.size, 0, none⟩ = some (.slice a l c) := by rw [Lib.cell_of_heap HX3.out]; rfl
      have h4 := HCH.out V3 HB3.out
      have hs3 := heap_lt HX3.out
      by_cases he : s = u
      · have e1 := str_yes he
        have HG3 := HG2.out.trans (by rw [decide_eq_true he]; simp : _ = true)
        subst HG3
        clear h4 f3
        go_wp2_with fail
        go_returns
        exact ⟨rfl, HB3.out⟩
      · have e1 := str_no he
        have HG3 := Lib.hid (HG2.out.trans (by rw [decide_eq_false he]; simp : _ = ((chainU ds fs).contains fu || (facesU ds fs).contains fu)))
        go_wp2_with (go_at_call 22; refine h4.mono ?_)
        rintro e V4 ⟨cv, rfl, hown, hb4⟩
        have HB4 := Lib.hid (HB3.out.trans (hb4.mono (by omega)))
        have HX4 := Lib.hid ((hb4.block W.heap.size hs3).trans HX3.out)
        obtain ⟨ca, cl, cc, rfl⟩ : ∃ ca cl cc, cv = .slice ca cl cc := by
          rcases ownsRow_forms hown with ⟨h, _⟩ | ⟨g, cap, h⟩
          · exact ⟨_, _, _, h⟩
          · exact ⟨_, _, _, h⟩
        have h5 := rhas_any (fun _ => True) V4 ca cl cc (chainU ds fs) (ints_row hown (fun _ _ => trivial)).1 fu
        clear h4 f3 hown hb4
        have f4 : V4.cell? ⟨W.heap.size, 0, none⟩ = some (.slice a l c) := by rw [Lib.cell_of_heap HX4.out]; rfl
        have h6 := HFC.out V4 HB4.out
        have hs4 := heap_lt HX4.out
        cases c5 : (chainU ds fs).contains fu with
        | true =>
          rw [c5] at h5
          have HG4 := HG3.out.trans (by rw [c5]; simp : _ = true)
          subst HG4
          clear h6 f4 c5
          go_wp2_with (go_at_call 53; refine h5.mono ?_)
          rintro e V5 ⟨rfl, rfl⟩
          go_wp2_with fail
          go_returns
          exact ⟨rfl, HB4.out⟩
        | false =>
          rw [c5] at h5
          have HG4 := Lib.hid (HG3.out.trans (by rw [c5]; simp : _ = (facesU ds fs).contains fu))
          clear c5
          go_wp2_with (go_at_call 53; refine h5.mono ?_)
          rintro e V5 ⟨rfl, rfl⟩
          go_wp2_with (go_at_call 23; refine h6.mono ?_)
          rintro e V5 ⟨fv, rfl, hown, hb5⟩
          have HB5 := Lib.hid (HB4.out.trans (hb5.mono (by omega)))
          obtain ⟨fa, fl, fc, rfl⟩ : ∃ fa fl fc, fv = .slice fa fl fc := by
            rcases ownsRow_forms hown with ⟨h, _⟩ | ⟨g, cap, h⟩
            · exact ⟨_, _, _, h⟩
            · exact ⟨_, _, _, h⟩
          have h7 := rhas_any (fun _ => True) V5 fa fl fc (facesU ds fs) (ints_row hown (fun _ _ => trivial)).1 fu
          rw [← HG4.out] at h7
          clear h6 h5 f4 hown hb5
          go_wp2_with (go_at_call 53; refine h7.mono ?_)
          rintro e V6 ⟨rfl, rfl⟩
          go_wp2_with fail
          go_returns
          exact ⟨rfl, HB5.out⟩
    | false =>
      have HG2 := HG.out.trans (by rw [c2, c1]; simp : _ = false)
      rw [c1] at n1
      subst HG2
      clear c2 c1 f2 h3
      go_wp2_with fail
      go_returns
      exact ⟨rfl, HB2.out⟩

end Go.Proofs.Ytnjfbcoddbeggaa
