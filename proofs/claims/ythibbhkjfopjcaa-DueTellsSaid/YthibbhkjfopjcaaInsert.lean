/-
  Those that are due, one put in after the other: what the document's own text does, by what holds of it; there is one such list.
-/
import Derived.Test.YthibbhkjfopjcaaWhichAny
namespace Go.Proofs.Ythibbhkjfopjcaa
open Go.ChangeShapes Go.WideShapes Go.ChangeAt Go.RowKit

/-- the order in which they are told -/
def Ahead (js : List (Int × Int × Int)) (x y : Int) : Prop := firstOf js x.toNat < firstOf js y.toNat ∨ (firstOf js x.toNat = firstOf js y.toNat ∧ x < y)
/-- the numbers below k of those that are due -/
structure WhichTo (js : List (Int × Int × Int)) (b a : Int) (k : Nat) (xs : List Int) : Prop where
  length : xs.length = cnt js b a k
  each : ∀ x ∈ xs, ∃ i : Nat, x = (i : Int) ∧ i < k ∧ dueB (everyOf js i) b a = true
  all : ∀ i : Nat, i < k → dueB (everyOf js i) b a = true → (i : Int) ∈ xs
  order : xs.Pairwise (Ahead js)
theorem WhichTo.nil (js : List (Int × Int × Int)) (b a : Int) : WhichTo js b a 0 [] := ⟨rfl, fun x hx => (by cases hx), fun i hi => absurd hi (Nat.not_lt_zero _), List.Pairwise.nil⟩
theorem WhichTo.is {js : List (Int × Int × Int)} {b a : Int} {xs : List Int} (h : WhichTo js b a js.length xs) : WhichIs js b a xs := ⟨h.length, h.each, h.all, h.order⟩
theorem WhichTo.miss {js : List (Int × Int × Int)} {b a : Int} {k : Nat} {xs : List Int} (h : WhichTo js b a k xs) (hd : dueB (everyOf js k) b a = false) : WhichTo js b a (k + 1) xs := by
  refine ⟨by rw [h.length, cnt, hd]; rfl, fun x hx => ?_, fun i hi hdi => ?_, h.order⟩
  · obtain ⟨i, h1, h2, h3⟩ := h.each x hx
    exact ⟨i, h1, by omega, h3⟩
  · by_cases hik : i = k
    · subst hik; rw [hd] at hdi; cases hdi
    · exact h.all i (by omega) hdi
theorem WhichTo.hit {js : List (Int × Int × Int)} {b a : Int} {k p : Nat} {xs : List Int} (h : WhichTo js b a k xs) (hd : dueB (everyOf js k) b a = true) (hp : p ≤ xs.length)
    (hlo : ∀ i, i < p → firstOf js (xs.getD i 0).toNat ≤ firstOf js k) (hhi : ∀ i, p ≤ i → i < xs.length → firstOf js k < firstOf js (xs.getD i 0).toNat) :
    WhichTo js b a (k + 1) (xs.take p ++ (k : Int) :: xs.drop p) := by
  have hmem : ∀ x, x ∈ xs.take p ++ (k : Int) :: xs.drop p ↔ x = (k : Int) ∨ x ∈ xs := by
    intro x
    have : x ∈ xs ↔ x ∈ xs.take p ∨ x ∈ xs.drop p := by rw [← List.mem_append, List.take_append_drop]
    rw [this, List.mem_append, List.mem_cons]
    constructor
    · rintro (h | h | h)
      · exact .inr (.inl h)
      · exact .inl h
      · exact .inr (.inr h)
    · rintro (h | h | h)
      · exact .inr (.inl h)
      · exact .inl h
      · exact .inr (.inr h)
  have hor : (xs.take p ++ xs.drop p).Pairwise (Ahead js) := by rw [List.take_append_drop]; exact h.order
  rw [List.pairwise_append] at hor
  refine ⟨?_, fun x hx => ?_, fun i hi hdi => ?_, ?_⟩
  · rw [List.length_append, List.length_cons, List.length_take, List.length_drop, cnt, hd, ← h.length]
    simp
    omega
  · rcases (hmem x).1 hx with rfl | hx
    · exact ⟨k, rfl, by omega, hd⟩
    · obtain ⟨i, h1, h2, h3⟩ := h.each x hx
      exact ⟨i, h1, by omega, h3⟩
  · rw [hmem]
    by_cases hik : i = k
    · exact .inl (by rw [hik])
    · exact .inr (h.all i (by omega) hdi)
  · rw [List.pairwise_append, List.pairwise_cons]
    have lo : ∀ x ∈ xs.take p, Ahead js x (k : Int) := by
      intro x hx
      obtain ⟨i, hi, rfl⟩ := List.getElem_of_mem hx
      have hi' : i < p ∧ i < xs.length := by rw [List.length_take] at hi; omega
      rw [List.getElem_take]
      have h1 := hlo i hi'.1
      rw [List.getD, List.getElem?_eq_getElem hi'.2, Option.getD_some] at h1
      obtain ⟨j, hj, hjk, _⟩ := h.each _ (List.getElem_mem hi'.2)
      unfold Ahead
      rw [Int.toNat_natCast]
      omega
    have hi : ∀ x ∈ xs.drop p, Ahead js (k : Int) x := by
      intro x hx
      obtain ⟨i, hi, rfl⟩ := List.getElem_of_mem hx
      have hi' : p + i < xs.length := by rw [List.length_drop] at hi; omega
      rw [List.getElem_drop]
      have h1 := hhi (p + i) (by omega) hi'
      rw [List.getD, List.getElem?_eq_getElem hi', Option.getD_some] at h1
      exact .inl (by rw [Int.toNat_natCast]; exact h1)
    refine ⟨hor.1, ⟨hi, hor.2.1⟩, fun x hx y hy => ?_⟩
    rcases List.mem_cons.1 hy with rfl | hy
    · exact lo x hx
    · exact hor.2.2 x hx y hy

theorem which_one {js : List (Int × Int × Int)} {b a : Int} {xs ys : List Int} (hx : WhichIs js b a xs) (hy : WhichIs js b a ys) : xs = ys := by
  have nd : ∀ {zs : List Int}, WhichIs js b a zs → zs.Nodup := fun hz => hz.order.imp (fun h e => by subst e; omega)
  have hm : ∀ z, z ∈ xs ↔ z ∈ ys := fun z => ⟨fun h => by obtain ⟨i, rfl, h1, h2⟩ := hx.each z h; exact hy.all i h1 h2, fun h => by obtain ⟨i, rfl, h1, h2⟩ := hy.each z h; exact hx.all i h1 h2⟩
  refine List.Perm.eq_of_pairwise (le := Ahead js) (fun x y _ _ h1 h2 => by unfold Ahead at *; omega) hx.order hy.order ?_
  rw [List.perm_iff_count]
  intro z
  rw [(nd hx).count, (nd hy).count]
  simp only [hm z]
end Go.Proofs.Ythibbhkjfopjcaa
