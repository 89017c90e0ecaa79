/-
  The order of those that are due: the library's insertion sort, of numbers that rise, tells them by priority, and of one priority by their numbers.
-/
import Derived.Test.YthibbhkjfopjcabWhich
import Derived.Test.YthibbhkjfopjcabSame
namespace Go.Proofs.Ythibbhkjfopjcab
open Go.ChangeShapes Go.WideShapes Go.ChangeAt Go.RowKit Go.Sort Go.Lib

section
variable {α : Type} [Inhabited α] {lt lt2 : α → α → Bool} {v : α → Nat}
theorem insInner_same (h : ∀ x y, v y < v x → lt x y = lt2 x y) (a : Nat) : ∀ (j : Nat) (d : Array α), j < d.size → (∀ p, p < j → v d[p]! < v d[j]!) → insInner lt a j d = insInner lt2 a j d
  | 0, d, _, _ => by simp [insInner]
  | j + 1, d, hj, hd => by
    unfold insInner
    rw [h _ _ (hd j (by omega))]
    split
    · refine insInner_same h a j _ (by rw [swp_size]; omega) ?_
      intro p hp
      rw [swp_get d hj (by omega), swp_get d hj (by omega)]
      simp only [show p ≠ j by omega, show p ≠ j + 1 by omega, if_false, if_true]
      exact hd p (by omega)
    · rfl
theorem insInner_keep (a : Nat) : ∀ (j : Nat) (d : Array α), j < d.size → (insInner lt a j d).size = d.size ∧ (∀ q, j < q → (insInner lt a j d)[q]! = d[q]!) ∧ ∀ P : α → Prop, (∀ p, p ≤ j → P d[p]!) → ∀ p, p ≤ j → P (insInner lt a j d)[p]!
  | 0, d, _ => by simp [insInner]
  | j + 1, d, hj => by
    unfold insInner
    split
    · obtain ⟨h1, h2, h3⟩ := insInner_keep a j (swp d (j + 1) j) (by rw [swp_size]; omega)
      have g := swp_get d hj (show j < d.size by omega)
      refine ⟨by rw [h1, swp_size], fun q hq => ?_, fun P hP p hp => ?_⟩
      · rw [h2 q (by omega), g]
        simp only [show q ≠ j by omega, show q ≠ j + 1 by omega, if_false]
      · by_cases hpj : p = j + 1
        · subst hpj
          rw [h2 _ (by omega), g]
          simp only [show j + 1 ≠ j by omega, if_false, if_true]
          exact hP j (by omega)
        · refine h3 P (fun p hp => ?_) p (by omega)
          rw [g]
          split
          · exact hP _ (Nat.le_refl _)
          · rw [if_neg (by omega)]; exact hP p (by omega)
    · exact ⟨rfl, fun _ _ => rfl, fun P hP p hp => hP p hp⟩
theorem insOuter_done {a b i : Nat} {d : Array α} (h : ¬ i < b) : insOuter lt a b i d = d := by rw [insOuter, if_neg h]
theorem insOuter_go {a b i : Nat} {d : Array α} (h : i < b) : insOuter lt a b i d = insOuter lt a b (i + 1) (insInner lt a i d) := by
  conv => lhs; rw [insOuter, if_pos h]
theorem insOuter_same (h : ∀ x y, v y < v x → lt x y = lt2 x y) (a b : Nat) : ∀ (n i : Nat) (d : Array α), b - i = n → b ≤ d.size → (∀ p q, p < q → i ≤ q → q < b → v d[p]! < v d[q]!) → insOuter lt a b i d = insOuter lt2 a b i d
  | 0, i, d, hn, _, _ => by
    rw [insOuter_done (by omega), insOuter_done (by omega)]
  | n + 1, i, d, hn, hb, hd => by
    rw [insOuter_go (lt := lt) (by omega), insOuter_go (lt := lt2) (by omega)]
    have hi : insInner lt a i d = insInner lt2 a i d := insInner_same h a i d (by omega) (fun p hp => hd p i hp (Nat.le_refl _) (by omega))
    rw [← hi]
    obtain ⟨h1, h2, h3⟩ := insInner_keep (lt := lt) a i d (by omega)
    refine insOuter_same h a b n (i + 1) _ (by omega) (by rw [h1]; exact hb) ?_
    intro p q hpq hq hqb
    rw [h2 q (by omega)]
    by_cases hp : p ≤ i
    · exact h3 (fun x => v x < v d[q]!) (fun p hp => hd p q (by omega) (by omega) hqb) p hp
    · rw [h2 p (by omega)]; exact hd p q hpq (by omega) hqb
theorem ins_same (h : ∀ x y, v y < v x → lt x y = lt2 x y) (d : Array α) (hd : ∀ p q, p < q → q < d.size → v d[p]! < v d[q]!) : insertionSort lt d 0 d.size = insertionSort lt2 d 0 d.size :=
  insOuter_same h 0 d.size _ 1 d rfl (Nat.le_refl _) (fun p q hpq _ hq => hd p q hpq hq)
end

/-- by priority, of one by their numbers -/
def lt2 {N : Nat} (js : List (Int × Int × Int)) (x y : Ix N) : Bool := decide (firstOf js x.val < firstOf js y.val ∨ (firstOf js x.val = firstOf js y.val ∧ x.val < y.val))
theorem swo2 {N : Nat} (js : List (Int × Int × Int)) : SWO (lt2 (N := N) js) :=
  ⟨fun x => by simp [lt2], fun x y z h1 h2 => by simp [lt2] at *; omega, fun x y z h1 h2 => by simp [lt2] at *; omega⟩
theorem gath_mem {N : Nat} (js : List (Int × Int × Int)) (b a : Int) : ∀ (k : Nat) (x : Ix N), x ∈ gath js b a k ↔ x.val < k ∧ dueB (everyOf js x.val) b a = true
  | 0, x => by simp [gath]
  | k + 1, x => by
    unfold gath
    rw [List.mem_append, gath_mem js b a k x]
    split
    · rename_i h
      split
      · rename_i hd
        rw [List.mem_singleton]
        constructor
        · rintro (⟨h1, h2⟩ | rfl)
          · exact ⟨by omega, h2⟩
          · exact ⟨by simp, hd⟩
        · rintro ⟨h1, h2⟩
          by_cases hx : x.val = k
          · exact .inr (Fin.ext hx)
          · exact .inl ⟨by omega, h2⟩
      · rename_i hd
        simp only [List.not_mem_nil, or_false]
        constructor
        · rintro ⟨h1, h2⟩; exact ⟨by omega, h2⟩
        · rintro ⟨h1, h2⟩
          by_cases hx : x.val = k
          · rw [hx] at h2; exact absurd h2 hd
          · exact ⟨by omega, h2⟩
    · rename_i h
      simp only [List.not_mem_nil, or_false]
      have := x.isLt
      constructor
      · rintro ⟨h1, h2⟩; exact ⟨by omega, h2⟩
      · rintro ⟨h1, h2⟩; exact ⟨by omega, h2⟩
theorem gath_inc {N : Nat} (js : List (Int × Int × Int)) (b a : Int) : ∀ (k : Nat), (gath (N := N) js b a k).Pairwise (fun x y => x.val < y.val)
  | 0 => List.Pairwise.nil
  | k + 1 => by
    unfold gath
    rw [List.pairwise_append]
    refine ⟨gath_inc js b a k, ?_, fun x hx y hy => ?_⟩
    · (repeat' split) <;> simp
    · have h1 := (gath_mem js b a k x).1 hx
      split at hy
      · split at hy
        · rw [List.mem_singleton] at hy
          subst hy
          exact h1.1
        · cases hy
      · cases hy

/-- what Which answers: the numbers of those that are due -/
def sorted {N : Nat} (js : List (Int × Int × Int)) (b a : Int) : List (Ix N) :=
  (insertionSort (ltOf (cf js)) (gath (N := N) js b a (N + 1)).toArray 0 (gath (N := N) js b a (N + 1)).length).toList
theorem sorted_eq {N : Nat} (js : List (Int × Int × Int)) (b a : Int) : sorted (N := N) js b a = (insertionSort (lt2 js) (gath (N := N) js b a (N + 1)).toArray 0 (gath (N := N) js b a (N + 1)).length).toList := by
  have hi := gath_inc (N := N) js b a (N + 1)
  unfold sorted
  generalize gath (N := N) js b a (N + 1) = g at hi
  have h := ins_same (lt := ltOf (cf js)) (lt2 := lt2 js) (v := fun x : Ix N => x.val) (fun x y h => by rw [lt_iff]; unfold lt2; congr 1; simp; omega) g.toArray (fun p q hpq hq => by
    have hq' : q < g.length := by simpa using hq
    have := List.pairwise_iff_getElem.1 hi p q (by omega) hq' hpq
    simpa [getElem!_def, List.getElem?_eq_getElem hq', List.getElem?_eq_getElem (show p < g.length by omega)] using this)
  simp only [List.size_toArray] at h
  rw [h]
theorem sorted_perm {N : Nat} (js : List (Int × Int × Int)) (b a : Int) : (sorted (N := N) js b a).Perm (gath (N := N) js b a (N + 1)) := by
  rw [sorted_eq]
  generalize gath (N := N) js b a (N + 1) = g
  have h := (insertionSort_holds (swo2 js) g.toArray 0 g.length (by omega) (by simp)).1
  have hs : (insertionSort (lt2 js) g.toArray 0 g.length).size = g.length := by simpa using h.1
  have hp := h.2.2
  generalize insertionSort (lt2 js) g.toArray 0 g.length = s at *
  have e1 : s.extract 0 g.length = s := by rw [← hs]; simp
  have e2 : g.toArray.extract 0 g.length = g.toArray := by simp
  rw [e1, e2] at hp
  simpa using hp
theorem sorted_by {N : Nat} (js : List (Int × Int × Int)) (b a : Int) : (sorted (N := N) js b a).Pairwise (fun x y => firstOf js x.val < firstOf js y.val ∨ (firstOf js x.val = firstOf js y.val ∧ x.val < y.val)) := by
  have hp := sorted_perm (N := N) js b a
  have hnd : (sorted (N := N) js b a).Pairwise (fun x y => x.val ≠ y.val) := by
    refine hp.symm.pairwise ((gath_inc js b a (N + 1)).imp (fun h => by omega)) (fun h => fun e => h e.symm)
  rw [sorted_eq] at *
  generalize gath (N := N) js b a (N + 1) = g at *
  have h := (insertionSort_holds (swo2 js) g.toArray 0 g.length (by omega) (by simp))
  have hs : (insertionSort (lt2 js) g.toArray 0 g.length).size = g.length := by simpa using h.1.1
  have h2 := h.2
  generalize insertionSort (lt2 js) g.toArray 0 g.length = s at *
  rw [List.pairwise_iff_getElem] at *
  intro i j hi hj hij
  have hn := hnd i j hi hj hij
  have := h2 i j (Nat.zero_le _) hij (by simpa [hs] using hj)
  have e1 : s[j]! = s.toList[j] := by rw [getElem!_pos s j (by simpa using hj)]; simp
  have e2 : s[i]! = s.toList[i] := by rw [getElem!_pos s i (by simpa using hi)]; simp
  rw [e1, e2] at this
  simp [lt2] at this
  simp only [Array.getElem_toList] at hn ⊢
  omega
end Go.Proofs.Ythibbhkjfopjcab
