/-
  Whether scans are great, and whether one may be written.
-/
import Derived.Test.YtjbagjmjbfiddaaGreatDoorArgs
import Derived.Test.YtjbagjmjbfiddaaGreatDoorDec
namespace Go.Proofs.YtjbagjmjbfiddaaGreatDoor
open Go.ChangeShapes Go.WideShapes Go.ChangeAt Go.RowKit

def isNum (n : Int) : Bool := decide (-2147483648 ≤ n) && decide (n ≤ 2147483648)
def mayOf (x : ScA) : Bool := decide (x.l ≤ 16) && isNum x.t && x.ns.all isNum

set_option maxHeartbeats 800000 in
set_option maxRecDepth 100000 in
theorem great_any (A : Option Addr) (len cap : Nat) (S : List ScA) (hS : S.length = len) (hm : len ≤ maxLen) (W : World) (h : Scans W A S) :
    Calls Tryz.prog 7 #[.slice A len cap, .int .i64 40] W fun e w' => ∃ b, e = .returned (.bool b) ∧ (b = false → len ≤ 40 ∧ ∀ (j : Nat) (x : ScA), S[j]? = some x → x.l ≤ 20) ∧ w' = W := by
  have HS := Lib.hid h
  clear h
  have hm' : len ≤ 9223372036854775807 := hm
  go_enter Tryz.func7, Tryz.ntmps7
  go_wp2_with fail
  go_loopw [5] (fun i wr => ∃ k : Nat, k ≤ len ∧ i = .int .i64 (k : Nat) ∧ (∀ (j : Nat) (x : ScA), j < k → S[j]? = some x → x.l ≤ 20) ∧ wr = W) (fun i _ => len - (intOf i).toNat)
  case atStart => exact ⟨0, Nat.zero_le _, rfl, fun j x hj => absurd hj (Nat.not_lt_zero j), rfl⟩
  case round =>
    obtain ⟨k, hk, rfl, hgd, rfl⟩ := hrel
    have HG := Lib.hid hgd
    clear hgd
    by_cases h40 : len ≤ 40
    · have d0 : decide ((len : Int) ≤ 40) = true := decide_eq_true (by omega)
      have d1 : decide ((40 : Int) < (len : Int)) = false := decide_eq_false (by omega)
      by_cases hlt : k < len
      · have hkS : k < S.length := by omega
        obtain ⟨x, hx⟩ : ∃ x, S[k]? = some x := ⟨_, List.getElem?_eq_getElem hkS⟩
        obtain ⟨b, o, rfl, hat⟩ := HS.out (by omega)
        obtain ⟨c0, c1, -⟩ := hat k x hx
        have i0 : (k : Int) < (len : Int) := by omega
        have i1 : (0 : Int) ≤ (k : Int) := by omega
        have i3 : decide ((k : Int) < (len : Int)) = true := decide_eq_true i0
        have c0' : wr.cell? ⟨b, o + k * 2, none⟩ = some (.slice x.a x.l x.c) := by rw [Nat.mul_comm k 2]; exact c0
        by_cases h20 : x.l ≤ 20
        · have d2 : decide ((20 : Int) < (x.l : Int)) = false := decide_eq_false (by omega)
          clear hat
          go_wp2_with fail
          refine ⟨⟨k + 1, by omega, by go_num, fun j y hj hy => ?_, trivial⟩, by simp [intOf]; omega⟩

          rcases Nat.lt_or_ge j k with h' | h'
          · exact HG.out j y h' hy
          · obtain rfl : j = k := by omega
            obtain rfl := Option.some.inj (hx.symm.trans hy)
            exact h20
        · have d2 : decide ((20 : Int) < (x.l : Int)) = true := decide_eq_true (by omega)
          clear hat
          go_wp2_with fail
          go_ret
          exact ⟨true, rfl, fun h => (by cases h), rfl⟩
      · have i3 : decide ((k : Int) < (len : Int)) = false := decide_eq_false (by omega)
        obtain rfl : k = len := by omega
        go_wp2_with fail
        go_ret
        exact ⟨false, rfl, fun _ => ⟨h40, fun j x hx => HG.out j x (by have := (List.getElem?_eq_some_iff.1 hx).1; omega) hx⟩, rfl⟩
    · have d0 : decide ((len : Int) ≤ 40) = false := decide_eq_false (by omega)
      have d1 : decide ((40 : Int) < (len : Int)) = true := decide_eq_true (by omega)
      by_cases hlt : k < len
      · have i3 : decide ((k : Int) < (len : Int)) = true := decide_eq_true (by omega)
        go_wp2_with fail
        go_ret
        exact ⟨true, rfl, fun h => (by cases h), rfl⟩
      · have i3 : decide ((k : Int) < (len : Int)) = false := decide_eq_false (by omega)
        go_wp2_with fail
        go_ret
        exact ⟨true, rfl, fun h => (by cases h), rfl⟩

theorem num_any (n : Int) (w : World) : Calls Tryz.prog 34 #[.int .i64 n] w fun e w' => e = .returned (.bool (isNum n)) ∧ w' = w := isnum_all n w
theorem rmay_any (n : Int) (w : World) : Calls Tryz.prog 21 #[.int .i64 n] w fun e w' => e = .returned (.bool (isNum n)) ∧ w' = w := by
  unfold isNum
  by_cases h0 : -2147483648 ≤ n
  · have b0 : decide (-2147483648 ≤ n) = true := by simpa using h0
    rw [b0]
    go_enter Tryz.func21, Tryz.ntmps21
    go_wp2_with fail
    go_ret
    exact ⟨rfl, rfl⟩
  · have b0 : decide (-2147483648 ≤ n) = false := by simpa using h0
    rw [b0]
    go_enter Tryz.func21, Tryz.ntmps21
    go_wp2_with fail
    go_ret
    exact ⟨rfl, rfl⟩

set_option maxHeartbeats 800000 in
set_option maxRecDepth 100000 in
theorem mayBe_any (x : ScA) (W : World) (hx : Ints W x.a x.l x.ns) (hl : x.l ≤ 20) :
    Calls Tryz.prog 17 #[.agg #[.slice x.a x.l x.c, .int .i64 x.t]] W fun e w' => e = .returned (.bool (mayOf x)) ∧ Below W.heap.size W w' := by
  obtain ⟨a, l, c, ns, t⟩ := x
  simp only at hx hl ⊢
  have hlen := hx.1
  have hb0 := (Below.refl W.heap.size W).alloc (Nat.le_refl _) (.cells #[.slice a l c, .int .i64 t] 45)
  have hI : ∀ j y, ns[j]? = some y → ∃ b o, a = some ⟨b, o, none⟩ ∧ (W.alloc (.cells #[.slice a l c, .int .i64 t] 45)).cell? ⟨b, o + j, none⟩ = some (.int .i64 y) := by
    intro j y hy
    have hj : j < l := by have := (List.getElem?_eq_some_iff.1 hy).1; omega
    obtain ⟨b, o, e, hc⟩ := hx.2 (by omega)
    exact ⟨b, o, e, keep1 hb0 (hc j y hy)⟩
  have HI := Lib.hid hI
  have HB := Lib.hid hb0
  clear hI hb0
  by_cases h16 : l ≤ 16
  · have d0 : decide ((16 : Int) < (l : Int)) = false := decide_eq_false (by omega)
    cases ht : isNum t with
    | false =>
      have hm : mayOf ⟨a, l, c, ns, t⟩ = false := by unfold mayOf; rw [ht]; simp
      rw [hm]
      clear hm
      have hn := num_any t (W.alloc (.cells #[.slice a l c, .int .i64 t] 45))
      rw [ht] at hn
      clear ht hx
      go_enter Tryz.func17, Tryz.ntmps17
      go_wp2_with (go_at_call 34; refine hn.mono ?_; rintro e w' ⟨rfl, rfl⟩)
      go_ret
      exact ⟨rfl, HB.out⟩
    | true =>
      have hm : mayOf ⟨a, l, c, ns, t⟩ = ns.all isNum := by unfold mayOf; rw [ht]; simp [h16]
      rw [hm]
      generalize hR : ns.all isNum = R
      have HR := Lib.hid hR
      clear hm hR
      have hn := num_any t (W.alloc (.cells #[.slice a l c, .int .i64 t] 45))
      rw [ht] at hn
      clear ht hx
      go_enter Tryz.func17, Tryz.ntmps17
      go_wp2_with (go_at_call 34; refine hn.mono ?_; rintro e w' ⟨rfl, rfl⟩)
      clear hn
      generalize hW0 : W.alloc (.cells #[.slice a l c, .int .i64 t] 45) = W0 at *
      go_loopw [18] (fun i wr => ∃ k : Nat, k ≤ l ∧ i = .int .i64 (k : Nat) ∧ (∀ (j : Nat) (y : Int), j < k → ns[j]? = some y → isNum y = true) ∧ wr = W0) (fun i _ => l - (intOf i).toNat)
      case atStart => exact ⟨0, Nat.zero_le _, rfl, fun j y hj => absurd hj (Nat.not_lt_zero j), rfl⟩
      case round =>
        obtain ⟨k, hk, rfl, hgd, hwr⟩ := hrel
        subst hwr
        have HG := Lib.hid hgd
        clear hgd
        by_cases hlt : k < l
        · obtain ⟨y, hy⟩ : ∃ y, ns[k]? = some y := ⟨_, List.getElem?_eq_getElem (by omega)⟩
          obtain ⟨b, o, rfl, hc⟩ := HI.out k y hy
          have i0 : (k : Int) < (l : Int) := by omega
          have i1 : (0 : Int) ≤ (k : Int) := by omega
          cases hny : isNum y with
          | false =>
            have hR : R = false := by
              rw [← HR.out, List.all_eq_false]
              exact ⟨y, List.mem_of_getElem? hy, by rw [hny]; simp⟩
            have hn := num_any y wr
            rw [hny] at hn
            subst hR
            go_wp2_with (go_at_call 34; refine hn.mono ?_; rintro e w' ⟨rfl, rfl⟩)
            go_ret
            exact ⟨rfl, HB.out⟩
          | true =>
            have hn := num_any y wr
            rw [hny] at hn
            go_wp2_with (go_at_call 34; refine hn.mono ?_; rintro e w' ⟨rfl, rfl⟩)
            refine ⟨⟨k + 1, by omega, by go_num, fun j z hj hz => ?_, trivial⟩, by simp [intOf]; omega⟩
            rcases Nat.lt_or_ge j k with h' | h'
            · exact HG.out j z h' hz
            · obtain rfl : j = k := by omega
              obtain rfl := Option.some.inj (hy.symm.trans hz)
              exact hny
        · obtain rfl : k = l := by omega
          have hR : R = true := by
            rw [← HR.out, List.all_eq_true]
            intro y hy
            obtain ⟨j, hj, rfl⟩ := List.getElem_of_mem hy
            exact HG.out j _ (by omega) (List.getElem?_eq_getElem hj)
          subst hR
          go_wp2_with fail
          go_ret
          exact ⟨rfl, HB.out⟩

  · have d0 : decide ((16 : Int) < (l : Int)) = true := decide_eq_true (by omega)
    have hm : mayOf ⟨a, l, c, ns, t⟩ = false := by unfold mayOf; simp [h16]
    rw [hm]
    clear hm hx
    go_enter Tryz.func17, Tryz.ntmps17
    go_wp2_with fail
    go_ret
    exact ⟨rfl, HB.out⟩
end Go.Proofs.YtjbagjmjbfiddaaGreatDoor
