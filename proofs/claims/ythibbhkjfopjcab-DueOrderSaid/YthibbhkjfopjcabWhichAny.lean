/-
  Which, of any jobs, of none too: what it answers, by what holds of it.
-/
import Derived.Test.YthibbhkjfopjcabOrder
import Derived.Test.YthibbhkjfopjcabAwake
namespace Go.Proofs.Ythibbhkjfopjcab
open Go.ChangeShapes Go.WideShapes Go.ChangeAt Go.RowKit Go.Sort Go.Lib

/-- as many of the first k jobs as are due -/
def cnt (js : List (Int × Int × Int)) (b a : Int) : Nat → Nat
  | 0 => 0
  | k + 1 => cnt js b a k + if dueB (everyOf js k) b a then 1 else 0
theorem cnt_le (js : List (Int × Int × Int)) (b a : Int) : ∀ k, cnt js b a k ≤ k
  | 0 => Nat.le_refl _
  | k + 1 => by have := cnt_le js b a k; unfold cnt; split <;> omega
theorem gath_length {N : Nat} (js : List (Int × Int × Int)) (b a : Int) : ∀ k, k ≤ N + 1 → (gath (N := N) js b a k).length = cnt js b a k
  | 0, _ => rfl
  | k + 1, hk => by
    unfold gath cnt
    rw [List.length_append, gath_length js b a k (by omega), dif_pos (by omega)]
    split <;> rfl

/-- the numbers of those that are due, by priority, of one by their numbers -/
structure WhichIs (js : List (Int × Int × Int)) (b a : Int) (xs : List Int) : Prop where
  length : xs.length = cnt js b a js.length
  each : ∀ x ∈ xs, ∃ i : Nat, x = (i : Int) ∧ i < js.length ∧ dueB (everyOf js i) b a = true
  all : ∀ i : Nat, i < js.length → dueB (everyOf js i) b a = true → (i : Int) ∈ xs
  order : xs.Pairwise (fun x y => firstOf js x.toNat < firstOf js y.toNat ∨ (firstOf js x.toNat = firstOf js y.toNat ∧ x < y))

theorem which_is {N : Nat} (js : List (Int × Int × Int)) (hl : js.length = N + 1) (b a : Int) : WhichIs js b a ((sorted (N := N) js b a).map fun i => (i.val : Int)) := by
  have hp := sorted_perm (N := N) js b a
  have ho := sorted_by (N := N) js b a
  constructor
  · rw [List.length_map, hp.length_eq, gath_length js b a (N + 1) (Nat.le_refl _), hl]
  · intro x hx
    obtain ⟨i, hi, rfl⟩ := List.mem_map.1 hx
    have := (gath_mem js b a (N + 1) i).1 (hp.mem_iff.1 hi)
    exact ⟨i.val, rfl, by omega, this.2⟩
  · intro i hi hd
    exact List.mem_map.2 ⟨⟨i, by omega⟩, hp.mem_iff.2 ((gath_mem js b a (N + 1) ⟨i, by omega⟩).2 ⟨by simp; omega, hd⟩), rfl⟩
  · rw [List.pairwise_map]
    refine ho.imp ?_
    intro x y h
    simp only [Int.toNat_natCast]
    omega

/-- jobs that came in: none, or a place where they lie -/
def Jobs (w : World) (A : Option Addr) (js : List (Int × Int × Int)) : Prop :=
  0 < js.length → ∃ jb off, A = some ⟨jb, off, none⟩ ∧ jb < w.heap.size ∧ JobsAt w jb off js
theorem Jobs.keep {w w' : World} {A : Option Addr} {js : List (Int × Int × Int)} (h : Jobs w A js) (hb : RowKit.Below w.heap.size w w') : Jobs w' A js := fun hn => by
  obtain ⟨jb, off, rfl, h1, h2⟩ := h hn
  exact ⟨jb, off, rfl, Nat.lt_of_lt_of_le h1 hb.size, h2.other fun p hp => hb.cell (by rw [hp]; exact h1)⟩

theorem map_ixV {N : Nat} (l : List (Ix N)) : l.map ixV = (l.map fun i => (i.val : Int)).map (Value.int .i64) := by
  rw [List.map_map]; rfl

set_option maxRecDepth 100000 in
theorem which_none (A : Option Addr) (cap : Nat) (b a : Int) (w : World) :
    Calls Try.prog 7 #[.slice A 0 cap, .int .i64 b, .int .i64 a] w fun e w' => e = .returned (.slice none 0 0) ∧ RowKit.Below w.heap.size w w' := by
  have hmf : ∀ (fn : Fn) (first cap : Array Value) (w : World), (Instr.makeFunc fn first cap).run Try.prog w = .ok (.func fn first cap) w := fun _ _ _ _ => rfl
  have hb := (RowKit.Below.refl w.heap.size w).alloc (Nat.le_refl _) (.cells #[.slice A 0 cap] 22)
  have HB := Lib.hid hb
  clear hb
  go_enter Try.func7, Try.ntmps7
  go_wp2_with fail
  refine wp_loop_rounds 1 ?_
  rw [rounds_succ]
  go_wp2_with fail
  refine (sort_nil _ _ 13 _ rfl).mono ?_
  rintro e w' ⟨rfl, rfl⟩
  go_wp2_with fail
  go_ret
  exact ⟨rfl, HB.out⟩

theorem which_any (js : List (Int × Int × Int)) (A : Option Addr) (len cap : Nat) (hl : js.length = len) (h20 : len ≤ 20) (b a : Int) (hma : a ≤ 9223372036854775807) (w : World) (hjs : Jobs w A js) :
    Calls Try.prog 7 #[.slice A len cap, .int .i64 b, .int .i64 a] w fun e w' => ∃ (A' : Option Addr) (n c : Nat) (xs : List Int), e = .returned (.slice A' n c) ∧ Ints w' A' n xs ∧ WhichIs js b a xs ∧ RowKit.Below w.heap.size w w' := by
  subst hl
  match js, hjs, h20 with
  | [], _, _ =>
    refine (which_none A cap b a w).mono ?_
    rintro e w' ⟨rfl, hb⟩
    exact ⟨none, 0, 0, [], rfl, ⟨rfl, fun h => by omega⟩, ⟨rfl, fun x hx => (by cases hx), fun i hi => absurd hi (Nat.not_lt_zero _), List.Pairwise.nil⟩, hb⟩
  | j :: js, hjs, h20 =>
    obtain ⟨jb, off, rfl, hjb, hjs⟩ := hjs (by simp)
    refine (which_some (N := js.length) (j :: js) rfl (by simpa using h20) jb off cap b a hma w hjb hjs).mono ?_
    rintro e w' ⟨v, rfl, ho, hb⟩
    have hi := which_is (N := js.length) (j :: js) rfl b a
    rw [show (insertionSort (ltOf (cf (j :: js))) (gath (N := js.length) (j :: js) b a (js.length + 1)).toArray 0 (gath (N := js.length) (j :: js) b a (js.length + 1)).length).toList = sorted (N := js.length) (j :: js) b a from rfl, map_ixV] at ho
    generalize (gath (N := js.length) (j :: js) b a (js.length + 1)).length = n at ho
    obtain ⟨h1, ⟨rfl, rfl⟩ | ⟨g, c, cur, rfl, h2⟩⟩ := id ho
    · exact ⟨none, 0, 0, _, rfl, Ints.of_own ho, hi, hb⟩
    · exact ⟨some ⟨g, 0, none⟩, n, c, _, rfl, Ints.of_own ho, hi, hb⟩
end Go.Proofs.Ythibbhkjfopjcab
