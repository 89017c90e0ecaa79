/-
  DueTells: the walk, given what the document's own text answers of any jobs.
-/
import Derived.Test.YthibbhkjfopjcaaOver
import Derived.Test.YthibbhkjfopjcaaAwake
namespace Go.Proofs.Ythibbhkjfopjcaa
open Go.ChangeShapes Go.WideShapes Go.ChangeAt Go.RowKit Go.Sort Go.Lib

theorem which_own (js : List (Int × Int × Int)) (A : Option Addr) (len cap : Nat) (hl : js.length = len) (h20 : len ≤ 20) (b a : Int) (hma : a ≤ 9223372036854775807) (w : World) (hjs : Jobs w A js) :
    Calls Try.prog 6 #[.slice A len cap, .int .i64 b, .int .i64 a] w fun e w' => ∃ (A' : Option Addr) (n c : Nat) (xs : List Int), e = .returned (.slice A' n c) ∧ n ≤ 20 ∧ w'.ownsRow w.heap.size 3 1 (.slice A' n c) n (xs.map (Value.int .i64)) ∧ WhichIs js b a xs ∧ RowKit.Below w.heap.size w w' := by
  subst hl
  match js, hjs, h20 with
  | [], _, _ =>
    refine (which_none A cap b a w).mono ?_
    rintro e w' ⟨rfl, hb⟩
    exact ⟨none, 0, 0, [], rfl, by omega, World.ownsRow_nil _ _ _ _, ⟨rfl, fun x hx => (by cases hx), fun i hi => absurd hi (Nat.not_lt_zero _), List.Pairwise.nil⟩, hb⟩
  | j :: js, hjs, h20 =>
    obtain ⟨jb, off, rfl, hjb, hjs⟩ := hjs (by simp)
    refine (which_some (N := js.length) (j :: js) rfl (by simpa using h20) jb off cap b a hma w hjb hjs).mono ?_
    rintro e w' ⟨v, rfl, ho, hb⟩
    have hi := which_is (N := js.length) (j :: js) rfl b a
    rw [show (insertionSort (ltOf (cf (j :: js))) (gath (N := js.length) (j :: js) b a (js.length + 1)).toArray 0 (gath (N := js.length) (j :: js) b a (js.length + 1)).length).toList = sorted (N := js.length) (j :: js) b a from rfl, map_ixV] at ho
    have hg := gath_le (N := js.length) (j :: js) b a (js.length + 1)
    simp only [List.length_cons] at h20
    generalize (gath (N := js.length) (j :: js) b a (js.length + 1)).length = n at ho hg
    obtain ⟨h1, ⟨rfl, rfl⟩ | ⟨g, c, cur, rfl, h2⟩⟩ := id ho
    · exact ⟨none, 0, 0, _, rfl, by omega, ho, hi, hb⟩
    · exact ⟨some ⟨g, 0, none⟩, n, c, _, rfl, by omega, ho, hi, hb⟩

/-- what the document's own text answers of any jobs -/
def RefTells : Prop := ∀ (js : List (Int × Int × Int)) (A : Option Addr) (len cap : Nat) (_ : js.length = len) (_ : len ≤ 20) (b a : Int) (_ : a ≤ 9223372036854775807) (w : World) (_ : Jobs w A js),
    Calls Try.prog 8 #[.slice A len cap, .int .i64 b, .int .i64 a] w fun e w' => ∃ (A' : Option Addr) (n c : Nat) (xs : List Int), e = .returned (.slice A' n c) ∧ n ≤ 20 ∧ Ints w' A' n xs ∧ WhichIs js b a xs ∧ RowKit.Below w.heap.size w w'

theorem below_drew {B : Nat} {W w : World} (h : RowKit.Below B W w) (q : Nat) : RowKit.Below B W (w.drewN q) := ⟨h.os, h.tape, h.output, h.size, h.block⟩
theorem jobs_drew {w : World} {A : Option Addr} {js : List (Int × Int × Int)} (h : Jobs w A js) (q : Nat) : Jobs (w.drewN q) A js := h
theorem own_drew {w : World} {base : Nat} {e : TypeId} {size : Nat} {v : Value} {n : Nat} {xs : List Value} (h : w.ownsRow base e size v n xs) (q : Nat) : (w.drewN q).ownsRow base e size v n xs := h
theorem own_keep {w w' : World} {base : Nat} {e : TypeId} {size : Nat} {v : Value} {n : Nat} {xs : List Value} (h : w.ownsRow base e size v n xs) (hb : RowKit.Below w.heap.size w w') : w'.ownsRow base e size v n xs := by
  refine ⟨h.1, ?_⟩
  rcases h.2 with h1 | ⟨g, cap, cur, h1, h2, h3, h4⟩
  · exact .inl h1
  · exact .inr ⟨g, cap, cur, h1, h2, (hb.block g (heap_lt h3)).trans h3, h4⟩

set_option maxRecDepth 100000 in
set_option maxHeartbeats 4000000 in
theorem tells_walk (H8 : RefTells) (js : List (Int × Int × Int)) (A : Option Addr) (len cap : Nat) (hl : js.length = len) (b a t : Int) (hma : a ≤ 9223372036854775807) (w : World) (hjs : Jobs w A js) :
    Calls Try.prog 3 #[.slice A len cap, .int .i64 b, .int .i64 a, .int .i64 t] w fun e w' => e = .returned (.bool true) ∧ RowKit.Below w.heap.size w w' := by
  by_cases h20 : (20 : Int) < (len : Int)
  · have HJ := Lib.hid hjs
    clear hjs
    go_enter Try.func3, Try.ntmps3
    go_wp2_with fail
    refine (awake_any _).mono ?_
    rintro e w' ⟨rfl, hb⟩
    go_wp2_with fail
    go_ret
    exact ⟨rfl, hb⟩
  · have HJ := Lib.hid hjs
    have HL := Lib.hid hl
    clear hjs hl
    go_enter Try.func3, Try.ntmps3
    go_wp2_with fail
    refine (which_own js A len cap HL.out (by omega) b a hma w HJ.out).mono ?_
    rintro e w1 ⟨A1, n1, c1, xs1, rfl, hn1, ho1, hw1, hb1⟩
    have HO1 := Lib.hid ho1
    have HW1 := Lib.hid hw1
    have HB1 := Lib.hid hb1
    clear ho1 hw1 hb1
    go_wp2_with fail
    refine (H8 js A len cap HL.out (by omega) b a hma w1 (HJ.out.keep HB1.out)).mono ?_
    rintro e w2 ⟨A2, n2, c2, xs2, rfl, hn2, hi2, hw2, hb2⟩
    obtain rfl : xs1 = xs2 := which_one HW1.out hw2
    have HI1 := Lib.hid ((Ints.of_own HO1.out).keep hb2)
    have HO2 := Lib.hid (own_keep HO1.out hb2)
    have HB2 := Lib.hid (HB1.out.trans (hb2.mono HB1.out.size))
    have HI2 := Lib.hid hi2
    clear hi2 hw2 hb2
    go_wp2_with fail
    refine (same_any A1 A2 n1 n2 c1 c2 xs1 xs1 w2 (by omega) (by omega) HI1.out HI2.out).mono ?_
    rintro e w3 ⟨rfl, q3, rfl⟩
    rw [decide_eq_true rfl]
    go_wp2_with fail
    refine (due_any t b a hma _).mono ?_
    rintro e w4 ⟨rfl, q4, rfl⟩
    go_wp2_with fail
    refine (rdue_any t b a hma _).mono ?_
    rintro e w5 ⟨rfl, q5, rfl⟩
    have hbq : (dueB t b a == dueB t b a) = true := by simp
    go_wp2_with fail
    refine (clip_any t _).mono ?_
    rintro e w6 ⟨rfl, rfl⟩
    go_wp2_with fail
    refine (rclip_any t _).mono ?_
    rintro e w6 ⟨rfl, rfl⟩
    have hcq : (clip t == clip t) = true := by simp
    go_wp2_with fail
    refine (over_any w.heap.size n1 (by omega) _ xs1 _ (show w.heap.size ≤ (w2.drewN _).heap.size from HB2.out.size) (own_drew HO2.out _)).mono ?_
    rintro e w7 ⟨rfl, hb7⟩
    have HB7 := Lib.hid ((below_drew HB2.out _).trans hb7)
    clear hb7
    go_wp2_with fail
    refine (which_own js A len cap HL.out (by omega) b a hma w7 (HJ.out.keep HB7.out)).mono ?_
    rintro e w8 ⟨A3, n3, c3, xs3, rfl, hn3, ho3, hw3, hb8⟩
    have HO3 := Lib.hid ho3
    have HW3 := Lib.hid hw3
    have HB8 := Lib.hid (HB7.out.trans (hb8.mono HB7.out.size))
    clear ho3 hw3 hb8
    go_wp2_with fail
    refine (H8 js A len cap HL.out (by omega) b a hma w8 (HJ.out.keep HB8.out)).mono ?_
    rintro e w9 ⟨A4, n4, c4, xs4, rfl, hn4, hi4, hw4, hb9⟩
    obtain rfl : xs3 = xs4 := which_one HW3.out hw4
    have HI3 := Lib.hid ((Ints.of_own HO3.out).keep hb9)
    have HB9 := Lib.hid (HB8.out.trans (hb9.mono HB8.out.size))
    have HI4 := Lib.hid hi4
    clear hi4 hw4 hb9
    go_wp2_with fail
    refine (same_any A3 A4 n3 n4 c3 c4 xs3 xs3 w9 (by omega) (by omega) HI3.out HI4.out).mono ?_
    rintro e w10 ⟨rfl, q10, rfl⟩
    rw [decide_eq_true rfl]
    go_wp2_with fail
    refine (awake_any _).mono ?_
    rintro e w11 ⟨rfl, hb11⟩
    have h9 := below_drew HB9.out q10
    have HE := Lib.hid (h9.trans (hb11.mono h9.size))
    clear hb11 h9
    go_wp2_with fail
    go_ret
    exact ⟨rfl, HE.out⟩
end Go.Proofs.Ythibbhkjfopjcaa
