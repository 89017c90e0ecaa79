/-
  BlockTimers: the plain side: what a timer that is stepped on and on holds.
-/
import Derived.Test.YthlkhlpilaglmaaWaitsPlain
import Derived.Test.YthlkhlpilaglmaaUpto
namespace Go.Proofs.Ythlkhlpilaglmaa
open Go.ChangeShapes Go.WideShapes Go.ChangeAt Go.RowKit

theorem mn_add {t d p : Int} (hd : 0 ≤ d) : mn (mn t p + d) p = mn (t + d) p := by unfold mn; (repeat' split) <;> omega
theorem on_first {p : Int} (hp : 1 ≤ p ∧ p ≤ 100) : st 1 false false false 0 true p 7 = ⟨false, true, true, 0⟩ := by
  simp only [st, if_true]
  rw [clamp_in (by omega) (by omega)]
  show (⟨decide (p ≤ 0), true, true, 0⟩ : St) = _
  rw [decide_eq_false (by omega)]
theorem on_next {p d t : Int} (hp : 1 ≤ p ∧ p ≤ 100) (hd : 0 ≤ d ∧ d ≤ 20) (ht : 0 ≤ t ∧ t ≤ 1000) : st 1 (decide (p ≤ t)) true true (mn t p) true p d = ⟨decide (p ≤ t + d), true, true, mn (t + d) p⟩ := by
  simp only [st, if_true]
  rw [clamp_in (by omega) (by omega), clamp_in (by omega) (by omega)]
  have h0 := mn_bd ht.1 (show 0 ≤ p by omega)
  have h1 := mn_le' t p
  simp only [onT]
  rw [w64 (by omega) (by omega), mn_add hd.1]
  have e : decide (p ≤ mn (t + d) p) = decide (p ≤ t + d) := by
    unfold mn
    split
    · simp; omega
    · rfl
  rw [e]
theorem off_first {p : Int} : st 2 false false false 0 true p 7 = ⟨true, true, false, 0⟩ := by
  simp only [st, if_neg (show ¬ (2 : Int) = 1 by omega), if_true]
  rfl
theorem off_second {p : Int} (hp : 1 ≤ p ∧ p ≤ 100) : st 2 true true false 0 false p 0 = ⟨true, false, false, 0⟩ := by
  simp only [st, if_neg (show ¬ (2 : Int) = 1 by omega), if_true]
  rw [clamp_in (by omega) (by omega)]
  simp only [offT]
  rw [clamp_in (by omega) (by omega), show (0 : Int) + 0 = 0 from rfl, w64 (by omega) (by omega), mn_r' (show (0 : Int) ≤ p by omega), decide_eq_true (by omega)]
theorem off_next {p d t c : Int} {l o : Bool} (hp : 1 ≤ p ∧ p ≤ 100) (hd : 0 ≤ d ∧ d ≤ 20) (ht : 0 ≤ t ∧ t ≤ 1000) (hc : t < p → c = t) {q' l' o' : Bool} {c' : Int} (h : st 2 (decide (t < p)) l o c false p d = ⟨q', l', o', c'⟩) :
    q' = decide (t + d < p) ∧ (t + d < p → c' = t + d) := by
  simp only [st, if_neg (show ¬ (2 : Int) = 1 by omega), if_true] at h
  rw [clamp_in (by omega) (by omega), clamp_in (by omega) (by omega)] at h
  by_cases hlt : t < p
  · rw [hc hlt, decide_eq_true hlt] at h
    simp only [offT] at h
    rw [w64 (by omega) (by omega)] at h
    simp only [St.mk.injEq] at h
    obtain ⟨rfl, _, _, rfl⟩ := h
    unfold mn
    split
    · refine ⟨?_, fun h => by omega⟩
      simp
      omega
    · exact ⟨rfl, fun _ => rfl⟩
  · rw [decide_eq_false hlt] at h
    simp only [offT] at h
    simp only [St.mk.injEq] at h
    obtain ⟨rfl, _, _, rfl⟩ := h
    exact ⟨(decide_eq_false (by omega)).symm, fun h => by omega⟩
theorem pul_first {p : Int} (hp : 1 ≤ p ∧ p ≤ 100) : st 3 false false false 0 true p 7 = ⟨true, true, true, 0⟩ := by
  simp only [st, if_neg (show ¬ (3 : Int) = 1 by omega), if_neg (show ¬ (3 : Int) = 2 by omega), if_true]
  rw [clamp_in (by omega) (by omega)]
  have : ¬ p ≤ 0 := by omega
  simp [pulO, pulC, this]
theorem pul_next {p d t c : Int} {q l o i : Bool} (hp : 1 ≤ p ∧ p ≤ 100) (hd : 0 ≤ d ∧ d ≤ 20) (ht : 0 ≤ t ∧ t ≤ 1000) (hc : t < p → o = true ∧ c = t) {q' l' o' : Bool} {c' : Int} (h : st 3 q l o c i p d = ⟨q', l', o', c'⟩) :
    t + d < p → q' = true ∧ o' = true ∧ c' = t + d := by
  intro hlt
  obtain ⟨rfl, rfl⟩ := hc (by omega)
  simp only [st, if_neg (show ¬ (3 : Int) = 1 by omega), if_neg (show ¬ (3 : Int) = 2 by omega), if_true] at h
  rw [clamp_in (by omega) (by omega), clamp_in (by omega) (by omega)] at h
  have e : pulC true c (i && !l) p d = c + d := by
    show mn (wrap64 (c + d)) p = _
    rw [w64 (by omega) (by omega), mn_r' (by omega)]
  have e2 : pulO true c (i && !l) p d = true := by
    unfold pulO
    rw [e, decide_eq_false (by omega)]
    rfl
  rw [e, e2] at h
  simp only [St.mk.injEq] at h
  obtain ⟨rfl, _, rfl, rfl⟩ := h
  exact ⟨rfl, rfl, rfl⟩
end Go.Proofs.Ythlkhlpilaglmaa
