/-
  What a script's lines are, and which one is refused first.
-/
import Derived.Test.YtjbagjmjbfiddaaGreatDoorRead
import Derived.Lib.IndexMore
import Derived.Lib.Split
import Derived.Lib.Atoi
import Derived.Lib.ItoaNum
namespace Go.Proofs.YtjbagjmjbfiddaaGreatDoor

/-- the number that a word writes as it would be printed -/
def numOf (s : ByteArray) : Option Int :=
  if s.size ≤ 11 then match Lib.atoi s.data.toList with
    | some n => if -2147483648 ≤ n ∧ n ≤ 2147483648 ∧ (⟨(Lib.itoa n).toArray⟩ : ByteArray).toList = s.toList then some n else none
    | none => none
  else none
/-- the words of a line -/
def wordsOf (s : ByteArray) : List ByteArray := Lib.splitB ⟨#[32]⟩ 0 (Lib.countB s ⟨#[32]⟩) s
def scanOk (s : ByteArray) : Bool :=
  match wordsOf s with
  | w :: r => w.toList == [115, 99, 97, 110] && decide (1 ≤ r.length) && decide (r.length ≤ 17) && r.all fun x => (numOf x).isSome
  | [] => false
def srcOk (l : List UInt8) : Bool := Lib.hasPrefix l [115, 114, 99, 32] && (readOf ⟨(Lib.trimPrefix l [115, 114, 99, 32]).toArray⟩).2
def lineOk (l : List UInt8) : Bool := srcOk l || scanOk ⟨l.toArray⟩

/-- what stands up to the first 10, and behind it -/
def cutL : List UInt8 → List UInt8 × List UInt8
  | [] => ([], [])
  | c :: r => if c = 10 then ([], r) else (c :: (cutL r).1, (cutL r).2)
/-- the number of the first line that is refused -/
def badLine : Nat → List UInt8 → Nat → Option Nat
  | 0, _, _ => none
  | f + 1, l, n => if l = [] then none else if lineOk (cutL l).1 then badLine f (cutL l).2 (n + 1) else some n

theorem cutL_le : ∀ l, (cutL l).2.length ≤ l.length
  | [] => Nat.le_refl _
  | c :: r => by
    unfold cutL
    split
    · simp
    · have := cutL_le r; simp; omega
theorem cutL_lt {l : List UInt8} (h : l ≠ []) : (cutL l).2.length < l.length := by
  cases l with
  | nil => exact absurd rfl h
  | cons c r =>
    unfold cutL
    split
    · simp
    · have := cutL_le r; simp; omega
theorem cutL_len1 : ∀ l, (cutL l).1.length ≤ l.length
  | [] => Nat.le_refl _
  | c :: r => by
    unfold cutL
    split
    · simp
    · have := cutL_len1 r; simp; omega
theorem index_nl : ∀ l : List UInt8, (10 ∈ l → Lib.index l [10] = (cutL l).1.length ∧ l = (cutL l).1 ++ 10 :: (cutL l).2) ∧ (10 ∉ l → Lib.index l [10] = -1 ∧ cutL l = (l, []))
  | [] => ⟨fun h => by simp at h, fun _ => ⟨rfl, rfl⟩⟩
  | c :: r => by
    obtain ⟨ih1, ih2⟩ := index_nl r
    by_cases hc : c = 10
    · subst hc
      refine ⟨fun _ => ?_, fun h => by simp at h⟩
      unfold Lib.index cutL
      simp
    · have hp : List.isPrefixOf [10] (c :: r) = false := by simp [List.isPrefixOf]; exact fun h => absurd h.symm hc
      refine ⟨fun h => ?_, fun h => ?_⟩
      · have hr : 10 ∈ r := by
          rcases List.mem_cons.1 h with h | h
          · exact absurd h.symm hc
          · exact h
        obtain ⟨e1, e2⟩ := ih1 hr
        unfold Lib.index cutL
        rw [hp, if_neg hc, e1]
        simp
        exact e2
      · have hr : 10 ∉ r := fun h' => h (List.mem_cons_of_mem _ h')
        obtain ⟨e1, e2⟩ := ih2 hr
        unfold Lib.index cutL
        rw [hp, if_neg hc, e1, e2]
        simp
theorem cut_cutL (l : List UInt8) : ∃ b, Lib.cut l [10] = ((cutL l).1, (cutL l).2, b) := by
  obtain ⟨h1, h2⟩ := index_nl l
  unfold Lib.cut
  by_cases h : 10 ∈ l
  · obtain ⟨e1, e2⟩ := h1 h
    rw [e1, if_pos (by omega)]
    refine ⟨true, ?_⟩
    generalize hx : (cutL l).1 = x at *
    generalize hy : (cutL l).2 = y at *
    rw [e2]
    simp
  · obtain ⟨e1, e2⟩ := h2 h
    rw [e1, if_neg (by omega), e2]
    exact ⟨false, rfl⟩
theorem cutL_app (l t : List UInt8) : (10 ∈ l → cutL (l ++ 10 :: t) = ((cutL l).1, (cutL l).2 ++ 10 :: t)) ∧ (10 ∉ l → cutL (l ++ 10 :: t) = (l, t) ∧ cutL l = (l, [])) := by
  induction l with
  | nil => exact ⟨fun h => by simp at h, fun _ => ⟨by simp [cutL], rfl⟩⟩
  | cons c r ih =>
    by_cases hc : c = 10
    · subst hc
      exact ⟨fun _ => by simp [cutL], fun h => by simp at h⟩
    · refine ⟨fun h => ?_, fun h => ?_⟩
      · have hr : 10 ∈ r := by
          rcases List.mem_cons.1 h with h | h
          · exact absurd h.symm hc
          · exact h
        have := ih.1 hr
        simp [cutL, hc, this]
      · have hr : 10 ∉ r := fun h' => h (List.mem_cons_of_mem _ h')
        obtain ⟨e1, e2⟩ := ih.2 hr
        simp [cutL, hc, e1, e2]
theorem badLine_nil (f n : Nat) : badLine f [] n = none := by cases f <;> rfl
theorem bad_app (t : List UInt8) : ∀ (f : Nat) (l : List UInt8) (n m : Nat), badLine f l n = some m → ∀ f', (l ++ 10 :: t).length ≤ f' → badLine f' (l ++ 10 :: t) n = some m
  | 0, _, _, _, h => by cases h
  | f + 1, l, n, m, h => by
    intro f' hf'
    unfold badLine at h
    split at h
    · cases h
    · rename_i hl
      have hpos : 0 < l.length := List.length_pos_iff.2 hl
      obtain ⟨g, rfl⟩ : ∃ g, f' = g + 1 := ⟨f' - 1, by simp at hf'; omega⟩
      unfold badLine
      rw [if_neg (by simp)]
      by_cases hm : 10 ∈ l
      · rw [(cutL_app l t).1 hm]
        split at h
        · rename_i hok
          rw [if_pos hok]
          refine bad_app t f _ _ _ h g ?_
          have := cutL_lt hl
          simp at hf' ⊢
          omega
        · rename_i hok
          rw [if_neg hok]
          exact h
      · obtain ⟨e1, e2⟩ := (cutL_app l t).2 hm
        rw [e1]
        rw [e2] at h
        split at h
        · rw [badLine_nil] at h; cases h
        · rename_i hok
          rw [if_neg hok]
          exact h
end Go.Proofs.YtjbagjmjbfiddaaGreatDoor
