/-
  Any word's number; any line's scan: whether it is one.
-/
import Derived.Test.YtjbagjmjbfiddaaGreatDoorScan
import Derived.Test.YtjbagjmjbfiddaaGreatDoorSpec
import Derived.Test.YtjbagjmjbfiddaaGreatDoorShelf
namespace Go.Proofs.YtjbagjmjbfiddaaGreatDoor
open Go.ChangeShapes Go.WideShapes Go.ChangeAt Go.RowKit Go.Sort

/-- what the package-level variables hold, strconv's own error besides -/
structure Env2 (w : World) : Prop extends Env w where
  syn : ∃ ev, w.cell? ⟨3, 0, none⟩ = some ev ∧ (ev = .nilIface ∨ ∃ te pe, ev = .iface te pe)
theorem Env2.keep {w w' : World} {B : Nat} (h : Env2 w) (hb : Below B w w') (hB : 9 ≤ B) : Env2 w' := by
  obtain ⟨ev, h1, h2⟩ := h.syn
  exact ⟨h.toEnv.keep hb hB, ev, (hb.cell (by simp; omega)).trans h1, h2⟩

theorem isnum_all (n : Int) (w : World) : Calls Tryz.prog 34 #[.int .i64 n] w fun e w' => e = .returned (.bool (decide (-2147483648 ≤ n) && decide (n ≤ 2147483648))) ∧ w' = w := by
  by_cases h0 : -2147483648 ≤ n
  · have b0 : decide (-2147483648 ≤ n) = true := by simpa using h0
    rw [b0]
    go_enter Tryz.func34, Tryz.ntmps34
    go_wp2_with fail
    go_ret
    exact ⟨rfl, rfl⟩
  · have b0 : decide (-2147483648 ≤ n) = false := by simpa using h0
    rw [b0]
    go_enter Tryz.func34, Tryz.ntmps34
    go_wp2_with fail
    go_ret
    exact ⟨rfl, rfl⟩

theorem numOf_err {s : ByteArray} (h : Lib.atoi s.data.toList = none) : numOf s = none := by unfold numOf; split <;> simp [h]
theorem numOf_big {s : ByteArray} (h : ¬ s.size ≤ 11) : numOf s = none := by unfold numOf; rw [if_neg h]
theorem numOf_ok {s : ByteArray} {n : Int} (hl : s.size ≤ 11) (h : Lib.atoi s.data.toList = some n) (h0 : -2147483648 ≤ n) (h1 : n ≤ 2147483648) (h2 : (⟨(Lib.itoa n).toArray⟩ : ByteArray).toList = s.toList) : numOf s = some n := by
  unfold numOf; rw [if_pos hl, h]; simp [h0, h1, h2]
theorem numOf_no {s : ByteArray} {n : Int} (h : Lib.atoi s.data.toList = some n) (h2 : ¬ (-2147483648 ≤ n ∧ n ≤ 2147483648 ∧ (⟨(Lib.itoa n).toArray⟩ : ByteArray).toList = s.toList)) : numOf s = none := by
  unfold numOf
  split
  · rw [h]; simp only []; rw [if_neg h2]
  · rfl

set_option maxHeartbeats 800000 in
set_option maxRecDepth 100000 in
theorem number_any (s : ByteArray) (w : World) (hE : Env2 w) :
    Calls Tryz.prog 41 #[.string s] w fun e w' => e = .returned (.tuple #[.int .i64 ((numOf s).getD 0), .bool (numOf s).isSome]) ∧ Below w.heap.size w w' := by
  by_cases hl : s.size ≤ 11
  · have hl' : decide ((11 : Int) < (s.size : Int)) = false := decide_eq_false (by omega)
    cases h : Lib.atoi s.data.toList with
    | none =>
      have hr := numOf_err h
      rw [hr]
      obtain ⟨ev, h1, h2⟩ := hE.syn
      have h3 := (Tryz.strconv_Atoi_err s (by omega) h ev w h1 h2)
      go_enter Tryz.func41, Tryz.ntmps41
      go_wp2_with (go_at_call 56; refine h3.mono ?_)
      rintro e w1 ⟨M, rfl, -, -, hb⟩
      have HB := Lib.hid hb
      clear hb h3 h1 h2 hr
      go_wp2_with fail
      go_ret2
      exact ⟨rfl, HB.out⟩
    | some n =>
      have hE' := Lib.hid hE
      clear hE
      by_cases hn : -2147483648 ≤ n ∧ n ≤ 2147483648
      · by_cases hi : (⟨(Lib.itoa n).toArray⟩ : ByteArray).toList = s.toList
        · rw [numOf_ok hl h hn.1 hn.2 hi]
          refine (number_ok s n hl h hn.1 hn.2 ?_ w hE'.out.toEnv).mono fun e w' h => h
          simp only [ByteArray.toList_eq] at hi
          rcases s with ⟨⟨l⟩⟩
          simpa using hi
        · rw [numOf_no h (fun x => hi x.2.2)]
          exact number_no s n hl h hn.1 hn.2 (by simpa using hi) w hE'.out.toEnv
      · have hr := numOf_no h (fun x => hn ⟨x.1, x.2.1⟩)
        rw [hr]
        have hb : (decide (-2147483648 ≤ n) && decide (n ≤ 2147483648)) = false := by
          rw [Bool.and_eq_false_iff]
          simp only [decide_eq_false_iff_not]
          omega
        clear hr hn
        go_enter Tryz.func41, Tryz.ntmps41
        go_wp2_with (go_at_call 56; refine (Tryz.strconv_Atoi s n (by omega) h w).mono ?_)
        rintro e w1 ⟨rfl, t, rfl⟩
        have hb1 := below_bytes (Below.refl w.heap.size w) (Nat.le_refl _) t
        generalize Lib.bytesWorld w 5 t = w1 at *
        have HB := Lib.hid hb1
        clear hb1
        have hnum := isnum_all n w1
        rw [hb] at hnum
        clear hb
        go_wp2_with (go_at_call 34; refine hnum.mono ?_; rintro e w2 ⟨rfl, rfl⟩)
        go_ret2
        exact ⟨rfl, HB.out⟩
  · have hl' : decide ((11 : Int) < (s.size : Int)) = true := decide_eq_true (by omega)
    rw [numOf_big hl]
    go_enter Tryz.func41, Tryz.ntmps41
    go_wp2_with fail
    go_ret2
    exact ⟨rfl, Below.refl _ _⟩
end Go.Proofs.YtjbagjmjbfiddaaGreatDoor
