/-
  A new book; what is a class or an interface.
-/
import Derived.Test.YtnjfbcoddbeggaaUwalk
import Derived.Maps.Own
import Derived.Carry
namespace Go.Proofs.Ytnjfbcoddbeggaa
open Go Go.ChangeShapes Go.WideShapes Go.ChangeAt Go.RowKit Go.Joins

/-- a new book -/
inductive OPost (ds : List DeclU) (lim : Nat) (W W' : World) (a : Option Addr) (l c : Nat) (e : Ending) : Prop
  | mk (b g1 g2 g3 : Nat) (h1 : e = .returned (.pointer (some ⟨b, 0, none⟩))) (h2 : BkAny ds lim W.heap.size (fun k => k = g1 ∨ k = g2 ∨ k = g3) W' b a l c g1 g2 g3 0 []) (hb : W.heap.size ≤ b) (h3 : Below W.heap.size W W')
      (m1 : W'.heap[g1]? = some (.map #[] 0)) (m2 : W'.heap[g2]? = some (.map #[] 0)) (m3 : W'.heap[g3]? = some (.map #[] 0)) (n1 : g1 ≠ g3) : OPost ds lim W W' a l c e

set_option maxHeartbeats 1600000 in
set_option maxRecDepth 100000 in
theorem of_any (W : World) (lim : Nat) (a : Option Addr) (l c : Nat) (ds : List DeclU) (hr : Row shDecl (fun k => k < lim) W a l ds) (hl : lim ≤ W.heap.size) (hf : l ≤ 16) (hf8 : Few ds) :
    Calls Try.prog 46 #[.agg #[.slice a l c]] W fun e W' => OPost ds lim W W' a l c e := by
  have hmm := @run_makeMap Try.prog
  have HR := Lib.hid hr
  have HL := Lib.hid hl
  have HF := Lib.hid hf
  have HF8 := Lib.hid hf8
  clear hr hl hf hf8
  go_enter Try.func46, Try.ntmps46
  go_wp2
  go_returns
  have hb1 := (Below.refl W.heap.size W).alloc (Nat.le_refl _) (.cells #[.slice a l c] 24)
  have hb2 := hb1.alloc (by simp) (.map #[] 0)
  have hb3 := hb2.alloc (by simp; omega) (.map #[] 0)
  have hb4 := hb3.alloc (by simp; omega) (.map #[] 0)
  have hb5 := hb4.alloc (by simp; omega) (.cells #[.slice a l c, .map none, .slice none 0 0, .map (some (W.heap.size + 1)), .map (some (W.heap.size + 2)), .map (some (W.heap.size + 3)), .int .i64 0] 116)
  refine ⟨W.heap.size + 4, W.heap.size + 1, W.heap.size + 2, W.heap.size + 3, by simp, .inl ⟨⟨row_lim HR.out (hb5.mono HL.out), HF.out, HF8.out, HL.out, by omega, by omega, fun k h => by omega, by omega⟩, heap_new (by simp), rfl⟩, by omega, hb5, ?_, ?_, ?_, by omega⟩
  · exact (heap_old (by first | (simp; done) | (simp; omega))).trans ((heap_old (by first | (simp; done) | (simp; omega))).trans ((heap_old (by first | (simp; done) | (simp; omega))).trans (heap_new (by first | (simp; done) | (simp; omega)))))
  · exact (heap_old (by first | (simp; done) | (simp; omega))).trans ((heap_old (by first | (simp; done) | (simp; omega))).trans (heap_new (by first | (simp; done) | (simp; omega))))
  · exact (heap_old (by first | (simp; done) | (simp; omega))).trans (heap_new (by first | (simp; done) | (simp; omega)))
section
variable {ds : List DeclU} {lim lo : Nat} {X : Nat → Prop} {b : Nat} {a : Option Addr} {l c g1 g2 g3 : Nat} {t : Int} {met : List Int}
def typedU (ds : List DeclU) (s : ByteArray) : Int := if (hasU ds (findU ds s) 2 || hasU ds (findU ds s) 1) = true then findU ds s else -1
set_option maxHeartbeats 1600000 in
set_option maxRecDepth 100000 in
theorem typed_any (S : Nat → Prop) (W : World) (b : Nat) (a : Option Addr) (l c : Nat) (ds : List DeclU) (hc : W.cell? ⟨b, 0, none⟩ = some (.slice a l c)) (hr : Row shDecl S W a l ds) (hl : l ≤ 16) (s : ByteArray) :
    Calls Try.prog 78 #[.pointer (some ⟨b, 0, none⟩), .string s] W fun e W' => e = .returned (.int .i64 (typedU ds s)) ∧ W' = W := by
  have h99 := bfind_any S W b a l c ds hc hr hl s
  have h2 := has_any S W b a l c ds hc hr (findU ds s) 2
  have h1 := has_any S W b a l c ds hc hr (findU ds s) 1
  obtain ⟨R, hR⟩ : ∃ R, typedU ds s = R := ⟨_, rfl⟩
  rw [hR]
  unfold typedU at hR
  generalize findU ds s = f at *
  clear hc hr
  go_enter Try.func78, Try.ntmps78
  go_wp2_with (go_at_call 99; refine h99.mono ?_)
  rintro e w1 ⟨rfl, rfl⟩
  cases k2 : hasU ds f 2 with
  | true =>
    rw [k2] at h2 hR
    rw [Bool.true_or, if_pos rfl] at hR
    subst hR
    go_wp2_with (go_at_call 76; refine h2.mono ?_)
    rintro e w2 ⟨rfl, rfl⟩
    clear h99 h2 h1
    go_wp2_with fail
    go_returns
    exact ⟨rfl, rfl⟩
  | false =>
    rw [k2] at h2 hR
    rw [Bool.false_or] at hR
    go_wp2_with (go_at_call 76; refine h2.mono ?_)
    rintro e w2 ⟨rfl, rfl⟩
    cases k1 : hasU ds f 1 with
    | true =>
      rw [k1] at h1 hR
      rw [if_pos rfl] at hR
      subst hR
      go_wp2_with (go_at_call 76; refine h1.mono ?_)
      rintro e w3 ⟨rfl, rfl⟩
      clear h99 h2 h1
      go_wp2_with fail
      go_returns
      exact ⟨rfl, rfl⟩
    | false =>
      rw [k1] at h1 hR
      rw [if_neg Bool.false_ne_true] at hR
      subst hR
      go_wp2_with (go_at_call 76; refine h1.mono ?_)
      rintro e w3 ⟨rfl, rfl⟩
      clear h99 h2 h1
      go_wp2_with fail
      go_returns
      exact ⟨rfl, rfl⟩
end

end Go.Proofs.Ytnjfbcoddbeggaa
