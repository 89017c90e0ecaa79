/-
  Who fits whom: in a book, and in the document.
-/
import Derived.Test.YtnjfbcoddbeggaaUris
import Derived.Test.YtnjfbcoddbeggaaUtab
namespace Go.Proofs.Ytnjfbcoddbeggaa
open Go Go.ChangeShapes Go.WideShapes Go.ChangeAt Go.RowKit Go.Joins

/-- may a value of type y stand where x is asked -/
def fitsU (ds : List DeclU) (x y : TypeU) : Bool :=
  if (x.kind == 1 || x.kind == 3) = true then y.kind == 1
  else if (x.kind == 2) = true then y.kind == 2
  else if (x.kind == 5) = true then (y.kind == 5 && (decide (y.name = ⟨#[]⟩) || decide (y.name = x.name) || isU ds y.name x.name))
  else false
theorem nil_list : (⟨#[]⟩ : ByteArray).toList = [] := by first | simp | (simp [ByteArray.toList, ByteArray.toList.loop]; done) | decide
theorem nil_yes {a : ByteArray} (h : a = ⟨#[]⟩) : (a.toList == []) = true := by have := str_yes h; rw [nil_list] at this; exact this
theorem nil_no {a : ByteArray} (h : a ≠ ⟨#[]⟩) : (a.toList == []) = false := by
  have := str_no h
  rw [nil_list] at this
  exact this

section
variable {ds : List DeclU} {lim lo : Nat} {X : Nat → Prop} {b : Nat} {a : Option Addr} {l c g1 g2 g3 : Nat} {t : Int} {met : List Int}
set_option maxHeartbeats 3200000 in
set_option maxRecDepth 100000 in
theorem bfits_any (W : World) (h : BkAny ds lim lo X W b a l c g1 g2 g3 t met) (ht : t ≤ 800) (hx : ∀ k, X k → k < W.heap.size) (x1 : X g1) (m1 : W.heap[g1]? = some (.map #[] 0)) (x y : TypeU) (hs : x.name.size ≤ 1000) (hu : y.name.size ≤ 1000) :
    Calls Try.prog 57 #[.pointer (some ⟨b, 0, none⟩), .agg #[.int .i64 x.kind, .int .i64 x.lo, .int .i64 x.hi, .string x.name], .agg #[.int .i64 y.kind, .int .i64 y.lo, .int .i64 y.hi, .string y.name]] W fun e W' => e = .returned (.bool (fitsU ds x y)) ∧ Below lo W W' := by
  have hlo := h.bk.1.lob
  have hbs := h.bk.2.2
  have hb1 := (Below.refl lo W).alloc (by omega) (.cells #[.int .i64 x.kind, .int .i64 x.lo, .int .i64 x.hi, .string x.name] 52)
  have hb0 := hb1.alloc (by simp; omega) (.cells #[.int .i64 y.kind, .int .i64 y.lo, .int .i64 y.hi, .string y.name] 52)
  have HB0 := Lib.hid hb0
  have hkeep : ∀ k, k < W.heap.size → ((W.alloc (.cells #[.int .i64 x.kind, .int .i64 x.lo, .int .i64 x.hi, .string x.name] 52)).alloc (.cells #[.int .i64 y.kind, .int .i64 y.lo, .int .i64 y.hi, .string y.name] 52)).heap[k]? = W.heap[k]? := fun k hk => (Below.heap_alloc _ _ k (by simp; omega)).trans (Below.heap_alloc _ _ k hk)
  have hc := is_any _ (h.over (W' := (W.alloc (.cells #[.int .i64 x.kind, .int .i64 x.lo, .int .i64 x.hi, .string x.name] 52)).alloc (.cells #[.int .i64 y.kind, .int .i64 y.lo, .int .i64 y.hi, .string y.name] 52)) (by simp; omega) (fun k hk _ => hkeep k hk)) ht (fun k hk => by have := hx k hk; simp; omega) x1 ((hkeep g1 (heap_lt m1)).trans m1) y.name x.name hu hs
  have HG := Lib.hid (rfl : fitsU ds x y = fitsU ds x y)
  clear h ht hx x1 m1 hs hu hb1 hb0 hkeep
  go_enter Try.func57, Try.ntmps57
  cases c1 : (x.kind == 1) with
  | true =>
    have hg := HG.out.trans (by unfold fitsU; rw [c1]; rfl : _ = (y.kind == 1))
    rw [hg]
    clear hc HG hg
    go_wp2_with fail
    go_returns
    exact ⟨rfl, HB0.out⟩
  | false =>
    cases c3 : (x.kind == 3) with
    | true =>
      have hg := HG.out.trans (by unfold fitsU; rw [c1, c3]; rfl : _ = (y.kind == 1))
      rw [hg]
      clear hc HG hg
      go_wp2_with fail
      go_returns
      exact ⟨rfl, HB0.out⟩
    | false =>
      cases c2 : (x.kind == 2) with
      | true =>
        have hg := HG.out.trans (by unfold fitsU; rw [c1, c3, c2]; rfl : _ = (y.kind == 2))
        rw [hg]
        clear hc HG hg
        go_wp2_with fail
        go_returns
        exact ⟨rfl, HB0.out⟩
      | false =>
        cases c5 : (x.kind == 5) with
        | false =>
          have hg := HG.out.trans (by unfold fitsU; rw [c1, c3, c2, c5]; rfl : _ = false)
          rw [hg]
          clear hc HG hg
          go_wp2_with fail
          go_returns
          exact ⟨rfl, HB0.out⟩
        | true =>
          have HG2 := Lib.hid (HG.out.trans (by unfold fitsU; rw [c1, c3, c2, c5]; rfl : _ = (y.kind == 5 && (decide (y.name = ⟨#[]⟩) || decide (y.name = x.name) || isU ds y.name x.name))))
          cases d5 : (y.kind == 5) with
          | false =>
            have hg := HG2.out.trans (by rw [d5]; rfl : _ = false)
            rw [hg]
            clear hc HG HG2 hg
            go_wp2_with fail
            go_returns
            exact ⟨rfl, HB0.out⟩
          | true =>
            by_cases h1 : y.name = ⟨#[]⟩
            · have hg := HG2.out.trans (by rw [d5, decide_eq_true h1]; rfl : _ = true)
              have n1 := nil_yes h1
              rw [hg]
              clear hc HG HG2 hg h1
              go_wp2_with fail
              go_returns
              exact ⟨rfl, HB0.out⟩
            · have n1 := nil_no h1
              by_cases h2 : y.name = x.name
              · have hg := HG2.out.trans (by rw [d5, decide_eq_false h1, decide_eq_true h2]; rfl : _ = true)
                have n2 := str_yes h2
                rw [hg]
                clear hc HG HG2 hg h1 h2
                go_wp2_with fail
                go_returns
                exact ⟨rfl, HB0.out⟩
              · have hg := HG2.out.trans (by rw [d5, decide_eq_false h1, decide_eq_false h2]; rfl : _ = isU ds y.name x.name)
                have n2 := str_no h2
                rw [hg]
                clear HG HG2 hg h1 h2
                go_wp2_with (go_at_call 54; refine hc.mono ?_)
                rintro e W2 ⟨rfl, hk⟩
                have HB := Lib.hid (HB0.out.trans hk)
                clear hk hc
                go_wp2_with fail
                go_returns
                exact ⟨rfl, HB.out⟩
end

set_option maxHeartbeats 3200000 in
set_option maxRecDepth 100000 in
theorem rfits_any (W : World) (lim : Nat) (a : Option Addr) (l c : Nat) (ds : List DeclU) (hr : Row shDecl (fun k => k < lim) W a l ds) (hl : lim ≤ W.heap.size) (hf : l ≤ 16) (hf8 : Few ds) (x y : TypeU) :
    Calls Try.prog 33 #[.agg #[.slice a l c], .agg #[.int .i64 x.kind, .int .i64 x.lo, .int .i64 x.hi, .string x.name], .agg #[.int .i64 y.kind, .int .i64 y.lo, .int .i64 y.hi, .string y.name]] W fun e W' => e = .returned (.bool (fitsU ds x y)) ∧ Below W.heap.size W W' := by
  have hb2 := (Below.refl W.heap.size W).alloc (Nat.le_refl _) (.cells #[.slice a l c] 24)
  have hb1 := hb2.alloc (by simp) (.cells #[.int .i64 x.kind, .int .i64 x.lo, .int .i64 x.hi, .string x.name] 52)
  have hb0 := hb1.alloc (by simp; omega) (.cells #[.int .i64 y.kind, .int .i64 y.lo, .int .i64 y.hi, .string y.name] 52)
  have HB0 := Lib.hid hb0
  have hc := ris_any _ lim a l c ds (row_lim hr (hb0.mono hl)) (Nat.le_trans hl hb0.size) hf hf8 y.name x.name
  have HG := Lib.hid (rfl : fitsU ds x y = fitsU ds x y)
  clear hr hl hf hf8 hb2 hb1 hb0
  go_enter Try.func33, Try.ntmps33
  cases c1 : (x.kind == 1) with
  | true =>
    have hg := HG.out.trans (by unfold fitsU; rw [c1]; rfl : _ = (y.kind == 1))
    rw [hg]
    clear hc HG hg
    go_wp2_with fail
    go_returns
    exact ⟨rfl, HB0.out⟩
  | false =>
    cases c3 : (x.kind == 3) with
    | true =>
      have hg := HG.out.trans (by unfold fitsU; rw [c1, c3]; rfl : _ = (y.kind == 1))
      rw [hg]
      clear hc HG hg
      go_wp2_with fail
      go_returns
      exact ⟨rfl, HB0.out⟩
    | false =>
      cases c2 : (x.kind == 2) with
      | true =>
        have hg := HG.out.trans (by unfold fitsU; rw [c1, c3, c2]; rfl : _ = (y.kind == 2))
        rw [hg]
        clear hc HG hg
        go_wp2_with fail
        go_returns
        exact ⟨rfl, HB0.out⟩
      | false =>
        cases c5 : (x.kind == 5) with
        | false =>
          have hg := HG.out.trans (by unfold fitsU; rw [c1, c3, c2, c5]; rfl : _ = false)
          rw [hg]
          clear hc HG hg
          go_wp2_with fail
          go_returns
          exact ⟨rfl, HB0.out⟩
        | true =>
          have HG2 := Lib.hid (HG.out.trans (by unfold fitsU; rw [c1, c3, c2, c5]; rfl : _ = (y.kind == 5 && (decide (y.name = ⟨#[]⟩) || decide (y.name = x.name) || isU ds y.name x.name))))
          cases d5 : (y.kind == 5) with
          | false =>
            have hg := HG2.out.trans (by rw [d5]; rfl : _ = false)
            rw [hg]
            clear hc HG HG2 hg
            go_wp2_with fail
            go_returns
            exact ⟨rfl, HB0.out⟩
          | true =>
            by_cases h1 : y.name = ⟨#[]⟩
            · have hg := HG2.out.trans (by rw [d5, decide_eq_true h1]; rfl : _ = true)
              have n1 := nil_yes h1
              rw [hg]
              clear hc HG HG2 hg h1
              go_wp2_with fail
              go_returns
              exact ⟨rfl, HB0.out⟩
            · have n1 := nil_no h1
              by_cases h2 : y.name = x.name
              · have hg := HG2.out.trans (by rw [d5, decide_eq_false h1, decide_eq_true h2]; rfl : _ = true)
                have n2 := str_yes h2
                rw [hg]
                clear hc HG HG2 hg h1 h2
                go_wp2_with fail
                go_returns
                exact ⟨rfl, HB0.out⟩
              · have hg := HG2.out.trans (by rw [d5, decide_eq_false h1, decide_eq_false h2]; rfl : _ = isU ds y.name x.name)
                have n2 := str_no h2
                rw [hg]
                clear HG HG2 hg h1 h2
                go_wp2_with (go_at_call 25; refine hc.mono ?_)
                rintro e W2 ⟨rfl, hk⟩
                have HB := Lib.hid (HB0.out.trans (hk.mono (by simp; omega)))
                clear hk hc
                go_wp2_with fail
                go_returns
                exact ⟨rfl, HB.out⟩

end Go.Proofs.Ytnjfbcoddbeggaa
