/-
  Lists of numbers: when they are held against each other, and when they are written over.
-/
import Derived.Test.YthibbhkjfopjcabBase
namespace Go.Proofs.Ythibbhkjfopjcab
open Go.ChangeShapes Go.WideShapes Go.ChangeAt Go.RowKit

/-- a slice that reads as numbers; nil, if there are none, or a place -/
def Ints (w : World) (A : Option Addr) (n : Nat) (xs : List Int) : Prop :=
  xs.length = n ∧ (0 < n → ∃ g off, A = some ⟨g, off, none⟩ ∧ ∀ j, j < n → w.cell? ⟨g, off + j, none⟩ = some (.int .i64 (xs.getD j 0)))
theorem Ints.keep {w w' : World} {A : Option Addr} {n : Nat} {xs : List Int} (h : Ints w A n xs) (hb : Below w.heap.size w w') : Ints w' A n xs :=
  ⟨h.1, fun hn => by
    obtain ⟨g, off, e, hc⟩ := h.2 hn
    exact ⟨g, off, e, fun j hj => keep1 hb (hc j hj)⟩⟩
theorem Ints.drewN {w : World} {A : Option Addr} {n : Nat} {xs : List Int} (h : Ints w A n xs) (k : Nat) : Ints (w.drewN k) A n xs := h
theorem Ints.of_own {w : World} {base c : Nat} {A : Option Addr} {n : Nat} {xs : List Int} (h : w.ownsRow base 3 1 (.slice A n c) n (xs.map (Value.int .i64))) : Ints w A n xs := by
  have hl : xs.length = n := by simpa using h.1
  refine ⟨hl, fun hn => ?_⟩
  have h' := h
  obtain ⟨_, ⟨_, h0⟩ | ⟨g, cap, cur, hv, _⟩⟩ := h'
  · omega
  have hA : A = some ⟨g, 0, none⟩ := by injection hv
  subst hA
  refine ⟨g, 0, rfl, fun j hj => ?_⟩
  have := World.ownsRow.cells h (g := g) rfl j (.int .i64 (xs.getD j 0)) (by simp [List.getElem?_map, List.getElem?_eq_getElem (show j < xs.length by omega), List.getD])
  have e : (⟨g, 0, none⟩ : Addr).add j = ⟨g, 0 + j, none⟩ := by
    cases j <;> simp [Addr.add]
  rwa [e] at this

theorem take_next {xs ys : List Int} {k : Nat} (h : xs.take k = ys.take k) (hx : k < xs.length) (hy : k < ys.length) (e : xs.getD k 0 = ys.getD k 0) : xs.take (k + 1) = ys.take (k + 1) := by
  rw [List.take_succ_eq_append_getElem hx, List.take_succ_eq_append_getElem hy, h]
  simp [List.getD, List.getElem?_eq_getElem hx, List.getElem?_eq_getElem hy] at e
  rw [e]

set_option maxRecDepth 100000 in
theorem same_any (A1 A2 : Option Addr) (n1 n2 c1 c2 : Nat) (xs ys : List Int) (w : World) (hn : n1 ≤ 1000000) (hn2 : n2 ≤ 1000000) (h1 : Ints w A1 n1 xs) (h2 : Ints w A2 n2 ys) :
    Calls Try.prog 10 #[.slice A1 n1 c1, .slice A2 n2 c2] w fun e w' => e = .returned (.bool (decide (xs = ys))) ∧ ∃ q, w' = w.drewN q := by
  by_cases hne : n1 = n2
  · subst hne
    have hx := h1.1
    have hy := h2.1
    have HX := Lib.hid hx
    have HY := Lib.hid hy
    clear hx hy
    have H1 := Lib.hid h1
    have H2 := Lib.hid h2
    clear h1 h2
    go_enter Try.func10, Try.ntmps10
    go_wp2_with fail
    go_loopw [5] (fun i wr => ∃ k : Nat, k ≤ n1 ∧ i = .int .i64 k ∧ xs.take k = ys.take k ∧ ∃ q, wr = w.drewN q) (fun i _ => n1 - (intOf i).toNat)
    case atStart => exact ⟨0, Nat.zero_le _, rfl, by simp, 0, rfl⟩
    case round =>
      obtain ⟨k, hk, rfl, hxy, q, rfl⟩ := hrel
      have HT := Lib.hid hxy
      clear hxy
      by_cases hlt : k < n1
      · obtain ⟨g, off, rfl, hc⟩ := H1.out.2 (by omega)
        obtain ⟨g2, off2, rfl, hc2⟩ := H2.out.2 (by omega)
        have d1 : (w.drewN q).cell? ⟨g, off + k, none⟩ = some (.int .i64 (xs.getD k 0)) := hc k hlt
        have d2 : (w.drewN q).cell? ⟨g2, off2 + k, none⟩ = some (.int .i64 (ys.getD k 0)) := hc2 k hlt
        have i0 : (0 : Int) ≤ (k : Int) := by omega
        have i1 : (k : Int) < (n1 : Int) := by omega
        clear hc hc2
        generalize hX : xs.getD k 0 = x at d1
        generalize hY : ys.getD k 0 = y at d2
        have HX1 := Lib.hid hX
        have HY1 := Lib.hid hY
        clear hX hY
        obtain ⟨wq, hwq⟩ : ∃ wq, wq = w.drewN q := ⟨_, rfl⟩
        rw [← hwq] at d1 d2 ⊢
        have HW := Lib.hid hwq
        clear hwq
        by_cases hxy : x = y
        · have hb : (x != y) = false := by simp [hxy]
          go_wp2_with fail
          go_quiet (fail)
          go_wp2_with fail
          go_roundw
          case rel => exact ⟨k + 1, by omega, by go_num, take_next HT.out (by rw [HX.out]; exact hlt) (by rw [HY.out]; exact hlt) (by rw [HX1.out, HY1.out]; exact hxy), q + _, by rw [HW.out, World.drewN_drewN]⟩
          case measure => simp [intOf]; omega
        · have hb : (x != y) = true := by simp [hxy]
          go_wp2_with fail
          go_quiet (fail)
          go_wp2_with fail
          go_ret
          exact ⟨ret_bool (by simp; intro e; exact hxy (by rw [← HX1.out, ← HY1.out, e])), q + _, by rw [HW.out, World.drewN_drewN]⟩
      · have hkl : k = n1 := by omega
        go_wp2_with fail
        go_ret
        refine ⟨ret_bool ?_, q, rfl⟩
        have h := HT.out
        rw [List.take_of_length_le (by have := HX.out; omega), List.take_of_length_le (by have := HY.out; omega)] at h
        simp [h]
  · have hb : ((n1 : Int) != (n2 : Int)) = true := by rw [bne_iff_ne]; omega
    have hxy : ¬ xs = ys := by rintro rfl; exact hne (h1.1.symm.trans h2.1)
    go_enter Try.func10, Try.ntmps10
    go_wp2_with fail
    go_ret
    exact ⟨ret_bool (by simp [hxy]), 0, rfl⟩
end Go.Proofs.Ythibbhkjfopjcab
