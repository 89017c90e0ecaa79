/-
  The document's reading: the pure facts.
-/
import Derived.Test.YtjbagjmjbfiddaaGreatDoorInv2
namespace Go.Proofs.YtjbagjmjbfiddaaGreatDoor

/-- a number from 0 to 2^31 -/
def digOf (l : List UInt8) : Option Nat :=
  if l.length < 1 ∨ 10 < l.length ∨ (l.headD 0 = 48 ∧ 1 < l.length) then none
  else match Lib.decFrom 0 l with
    | some n => if n ≤ 2147483648 then some n else none
    | none => none
def refNum (l : List UInt8) : Option Int :=
  if 1 < l.length ∧ l.headD 0 = 45 then (match digOf l.tail with | some n => if n = 0 then none else some (-(n : Int)) | none => none)
  else (digOf l).map fun (n : Nat) => (n : Int)

theorem dec_head : ∀ (k n : Nat), n ≤ k → 1 ≤ n → (Lib.decDigits n).headD 0 ≠ 48
  | 0, n, h, h1 => by omega
  | k + 1, n, h, h1 => by
    by_cases hn : n < 10
    · rw [Lib.decDigits_one hn]
      intro e
      have e : UInt8.ofNat (48 + n) = 48 := e
      have := congrArg UInt8.toNat e
      rw [UInt8.toNat_ofNat'] at this
      have h48 : (48 : UInt8).toNat = 48 := rfl
      omega
    · rw [Lib.decDigits, dif_neg hn]
      have ih := dec_head k (n / 10) (by omega) (by omega)
      have hne := dec_ne (n / 10)
      generalize Lib.decDigits (n / 10) = d at *
      cases d with
      | nil => exact absurd rfl hne
      | cons a r => exact ih
theorem digOf_dec {n : Nat} (h : n ≤ 2147483648) : digOf (Lib.decDigits n) = some n := by
  have hl := dec_len10 9 n (by omega)
  have h1 : 1 ≤ (Lib.decDigits n).length := List.length_pos_iff.2 (dec_ne n)
  unfold digOf
  rw [if_neg, decFrom_dec n n (Nat.le_refl _)]
  · simp only []
    rw [if_pos h]
  · rintro (h2 | h2 | ⟨h2, h3⟩)
    · omega
    · omega
    · rcases Nat.eq_zero_or_pos n with h0 | h0
      · subst h0
        rw [Lib.decDigits_one (by decide)] at h3
        simp at h3
      · exact dec_head n n (Nat.le_refl _) h0 h2
theorem decFrom_back : ∀ (l : List UInt8) (acc n : Nat) (b : UInt8), Lib.decFrom acc (l ++ [b]) = some n → ∃ m d, Lib.decFrom acc l = some m ∧ Lib.digitVal b = some d ∧ n = m * 10 + d
  | [], acc, n, b, h => by
    have h : Lib.decFrom acc [b] = some n := h
    unfold Lib.decFrom at h
    cases hd : Lib.digitVal b with
    | none => rw [hd] at h; cases h
    | some d =>
      rw [hd] at h
      exact ⟨acc, d, rfl, rfl, (Option.some.inj h).symm⟩
  | c :: r, acc, n, b, h => by
    rw [List.cons_append] at h
    unfold Lib.decFrom at h
    cases hc : Lib.digitVal c with
    | none => rw [hc] at h; cases h
    | some e =>
      rw [hc] at h
      obtain ⟨m, d, h1, h2, h3⟩ := decFrom_back r _ n b h
      refine ⟨m, d, ?_, h2, h3⟩
      unfold Lib.decFrom
      rw [hc]
      exact h1
theorem digit_back {b : UInt8} {d : Nat} (h : Lib.digitVal b = some d) : d < 10 ∧ UInt8.ofNat (48 + d) = b := by
  obtain ⟨h1, h2, h3⟩ := Lib.digitVal_eq h
  refine ⟨by omega, ?_⟩
  apply UInt8.toNat_inj.1
  rw [UInt8.toNat_ofNat']
  omega
theorem dec_canon : ∀ (k : Nat) (l : List UInt8) (n : Nat), l.length = k → l ≠ [] → (l.headD 0 ≠ 48 ∨ l.length = 1) → Lib.decFrom 0 l = some n → Lib.decDigits n = l
  | 0, l, n, hk, hl, _, _ => absurd (List.length_eq_zero_iff.1 hk) hl
  | k + 1, l, n, hk, hl, hh, h => by
    obtain ⟨p, b, rfl⟩ : ∃ p b, l = p ++ [b] := ⟨l.dropLast, l.getLast hl, (List.dropLast_concat_getLast hl).symm⟩
    obtain ⟨m, d, h1, h2, h3⟩ := decFrom_back p 0 n b h
    obtain ⟨h4, h5⟩ := digit_back h2
    by_cases hp : p = []
    · subst hp
      obtain rfl : 0 = m := Option.some.inj h1
      rw [Lib.decDigits_one (by omega), h3, Nat.zero_mul, Nat.zero_add, h5]
      rfl
    · have hpl : 1 ≤ p.length := List.length_pos_iff.2 hp
      have hhp : p.headD 0 ≠ 48 := by
        rcases hh with hh | hh
        · cases p with
          | nil => exact absurd rfl hp
          | cons a r => exact hh
        · rw [List.length_append, List.length_singleton] at hh; omega
      have hd := dec_canon k p m (by simp at hk; exact hk) hp (.inl hhp) h1
      have hm : m ≠ 0 := by
        intro e
        subst e
        rw [Lib.decDigits_one (by decide)] at hd
        rw [← hd] at hhp
        exact hhp rfl
      rw [Lib.decDigits, dif_neg (by omega)]
      rw [show n / 10 = m by omega, show n % 10 = d by omega, hd, h5]
theorem digOf_some {l : List UInt8} {n : Nat} (h : digOf l = some n) : n ≤ 2147483648 ∧ l = Lib.decDigits n := by
  unfold digOf at h
  split at h
  · cases h
  · rename_i hc
    split at h
    · rename_i m hm
      split at h
      · rename_i hle
        obtain rfl := Option.some.inj h
        refine ⟨hle, (dec_canon l.length l m rfl ?_ ?_ hm).symm⟩
        · intro e; apply hc; left; rw [e]; decide
        · by_cases h48 : l.headD 0 = 48
          · right
            rcases Nat.lt_or_ge 1 l.length with h' | h'
            · exact absurd (.inr (.inr ⟨h48, h'⟩)) hc
            · rcases Nat.lt_or_ge l.length 1 with h'' | h''
              · exact absurd (.inl h'') hc
              · omega
          · exact .inl h48
      · cases h
    · cases h
theorem refNum_itoa {n : Int} (h : isNum n = true) : refNum (Lib.itoa n) = some n := by
  have hr := (isNum_iff n).1 h
  unfold Lib.itoa
  split
  · rename_i hn
    unfold refNum
    have h1 : 1 ≤ (Lib.decDigits n.natAbs).length := List.length_pos_iff.2 (dec_ne _)
    rw [if_pos ⟨by simp; omega, rfl⟩]
    show (match digOf (Lib.decDigits n.natAbs) with | some n => if n = 0 then none else some (-(n : Int)) | none => none) = _
    rw [digOf_dec (by omega)]
    simp only []
    rw [if_neg (by omega)]
    congr 1
    omega
  · rename_i hn
    unfold refNum
    rw [if_neg, digOf_dec (by omega)]
    · show some ((n.toNat : Nat) : Int) = _
      congr 1
      omega
    · rintro ⟨-, h2⟩
      have hne := dec_ne n.toNat
      have hm := dec_mem n.toNat n.toNat (Nat.le_refl _)
      generalize Lib.decDigits n.toNat = d at *
      cases d with
      | nil => exact hne rfl
      | cons a r =>
        have h2 : a = 45 := h2
        subst h2
        have := hm 45 (by simp)
        revert this
        decide
theorem refNum_some {l : List UInt8} {n : Int} (h : refNum l = some n) : isNum n = true ∧ l = Lib.itoa n := by
  unfold refNum at h
  split at h
  · rename_i hc
    split at h
    · rename_i m hm
      split at h
      · cases h
      · rename_i h0
        obtain rfl := Option.some.inj h
        obtain ⟨h1, h2⟩ := digOf_some hm
        refine ⟨(isNum_iff _).2 (by omega), ?_⟩
        unfold Lib.itoa
        rw [if_pos (by omega), show (-(m : Int)).natAbs = m by omega, ← h2]
        cases l with
        | nil => simp at hc
        | cons a r => obtain rfl : a = 45 := hc.2; rfl
    · cases h
  · cases hd : digOf l with
    | none => rw [hd] at h; cases h
    | some m =>
      rw [hd] at h
      have hn : (m : Int) = n := Option.some.inj h
      subst hn
      obtain ⟨h1, h2⟩ := digOf_some hd
      refine ⟨(isNum_iff _).2 (by omega), ?_⟩
      unfold Lib.itoa
      rw [if_neg (by omega), show ((m : Int)).toNat = m by omega, ← h2]
theorem refNum_eq (l : List UInt8) : refNum l = numL l := by
  cases h : refNum l with
  | some n =>
    obtain ⟨h1, h2⟩ := refNum_some h
    rw [h2]
    exact (numOf_itoa h1).symm
  | none =>
    cases h' : numL l with
    | none => rfl
    | some n =>
      obtain ⟨h1, h2⟩ := numOf_some h'
      have h2 : l = Lib.itoa n := h2
      rw [h2, refNum_itoa h1] at h
      cases h

/-- the lines of a text -/
def linesL (l : List UInt8) : List (List UInt8) := if (splitL 10 l).getLastD [] = [] then (splitL 10 l).dropLast else splitL 10 l
def readW : List (List UInt8) → Nat → List UInt8 → List (Int × List Int) → Nat ⊕ (List UInt8 × List (Int × List Int))
  | [], _, l, T => .inr (l, T)
  | x :: r, n, l, T =>
    if srcOk x then readW r (n + 1) (l ++ srcVal x) T
    else if scanOk ⟨x.toArray⟩ then readW r (n + 1) l (T ++ [scanVal ⟨x.toArray⟩])
    else .inl n
theorem splitL_ne (c : UInt8) (l : List UInt8) : splitL c l ≠ [] := by
  cases l with
  | nil => simp [splitL]
  | cons x r => unfold splitL; split <;> simp
theorem linesL_cons {a r : List UInt8} (h : (10 : UInt8) ∉ a) : linesL (a ++ 10 :: r) = a :: linesL r := by
  unfold linesL
  rw [splitL_hit r h]
  have hne := splitL_ne 10 r
  generalize splitL 10 r = s at *
  cases s with
  | nil => exact absurd rfl hne
  | cons x y =>
    show (if (x :: y).getLastD [] = [] then _ else _) = _
    split
    · rfl
    · rfl
theorem readL_W : ∀ (f : Nat) (cur : List UInt8) (n : Nat) (l : List UInt8) (T : List (Int × List Int)), cur.length ≤ f → readL f cur n l T = readW (linesL cur) n l T
  | 0, cur, n, l, T, h => by
    obtain rfl := List.length_eq_zero_iff.1 (Nat.le_zero.1 h)
    rfl
  | f + 1, cur, n, l, T, h => by
    by_cases hc : cur = []
    · subst hc; rfl
    · have hpos := List.length_pos_iff.2 hc
      obtain ⟨h1, -⟩ := index_one 10 cur
      unfold readL
      rw [if_neg hc]
      by_cases h10 : 10 ∈ cur
      · obtain ⟨a, r, rfl, ha, -⟩ := h1 h10
        rw [((cutL_app a r).2 ha).1, linesL_cons ha]
        have hr : r.length ≤ f := by rw [List.length_append, List.length_cons] at h; omega
        show (if srcOk a = true then readL f r (n + 1) (l ++ srcVal a) T else if scanOk ⟨a.toArray⟩ = true then readL f r (n + 1) l (T ++ [scanVal ⟨a.toArray⟩]) else .inl n) = readW (a :: linesL r) n l T
        rw [readL_W f r _ _ _ hr, readL_W f r _ _ _ hr]
        rfl
      · have hl : linesL cur = [cur] := by
          unfold linesL
          rw [splitL_miss h10]
          rw [if_neg (by simpa using hc)]
        rw [((cutL_app cur []).2 h10).2, hl]
        show (if srcOk cur = true then readL f [] (n + 1) (l ++ srcVal cur) T else if scanOk ⟨cur.toArray⟩ = true then readL f [] (n + 1) l (T ++ [scanVal ⟨cur.toArray⟩]) else .inl n) = readW [cur] n l T
        rw [readL_nil, readL_nil]
        rfl
theorem readAll_W (s : ByteArray) : readAll s = readW (linesL s.data.toList) 1 [] [] := readL_W _ _ _ _ _ (Nat.le_refl _)

/-- the words of a line that may be bytes -/
def srcOkL : List (List UInt8) → Bool
  | [w, x] => w == [115, 114, 99] && (readOf ⟨x.toArray⟩).2
  | _ => false
theorem readOf_blank {r : List UInt8} (h : (32 : UInt8) ∈ r) : (readOf ⟨r.toArray⟩).2 = false := by
  obtain ⟨i, hi, he⟩ := List.getElem_of_mem h
  have hs : (⟨r.toArray⟩ : ByteArray).size = r.length := mk_size r
  have hsat := sat_list r i 32 (by rw [List.getElem?_eq_getElem hi, he])
  unfold readOf
  split
  · rename_i h1
    simp only [ByteArray.toList_eq] at h1
    have h1 : r = [45] := h1
    rw [h1] at h
    revert h
    decide
  · split
    · rfl
    · rename_i h2
      rw [if_neg]
      intro hg
      have he : (⟨r.toArray⟩ : ByteArray).size % 2 ≠ 1 := fun e => h2 (.inr e)
      rw [hs] at he
      have hgi := hg (i / 2) (by rw [hs]; omega)
      have hd : dig (sat ⟨r.toArray⟩ i) = -1 := by rw [hsat]; decide
      rcases Nat.mod_two_eq_zero_or_one i with h' | h'
      · have := hgi.1
        rw [show 2 * (i / 2) = i by omega, hd] at this
        omega
      · have := hgi.2
        rw [show 2 * (i / 2) + 1 = i by omega, hd] at this
        omega
theorem src_has {l : List UInt8} (h : Lib.hasPrefix l [115, 114, 99, 32] = true) : ∃ r, l = [115, 114, 99] ++ 32 :: r ∧ Lib.trimPrefix l [115, 114, 99, 32] = r := by
  have hp : List.isPrefixOf [115, 114, 99, 32] l = true := h
  obtain ⟨r, hr⟩ := List.isPrefixOf_iff_prefix.1 hp
  refine ⟨r, hr.symm, ?_⟩
  unfold Lib.trimPrefix
  rw [if_pos h, ← hr]
  rfl
theorem srcOk_eq (l : List UInt8) : srcOk l = srcOkL (splitL 32 l) := by
  by_cases h : Lib.hasPrefix l [115, 114, 99, 32] = true
  · obtain ⟨r, rfl, ht⟩ := src_has h
    unfold srcOk
    rw [h, ht, splitL_hit r (by decide)]
    by_cases hr : (32 : UInt8) ∈ r
    · rw [readOf_blank hr]
      obtain ⟨a, q, rfl, ha, -⟩ := (index_one 32 r).1 hr
      rw [splitL_hit q ha]
      have hne := splitL_ne 32 q
      generalize splitL 32 q = s at *
      cases s with
      | nil => exact absurd rfl hne
      | cons x y => rfl
    · rw [splitL_miss hr]
      rfl
  · have hf : Lib.hasPrefix l [115, 114, 99, 32] = false := by simpa using h
    unfold srcOk
    rw [hf]
    cases hs : srcOkL (splitL 32 l) with
    | false => rfl
    | true =>
      exfalso
      by_cases h32 : (32 : UInt8) ∈ l
      · obtain ⟨a, q, rfl, ha, -⟩ := (index_one 32 l).1 h32
        rw [splitL_hit q ha] at hs
        have ha : a = [115, 114, 99] := by
          cases hq : splitL 32 q with
          | nil => exact absurd hq (splitL_ne _ _)
          | cons x y =>
            rw [hq] at hs
            cases y with
            | nil =>
              unfold srcOkL at hs
              simp only [Bool.and_eq_true] at hs
              exact beq_iff_eq.1 hs.1
            | cons y z => cases hs
        subst ha
        apply h
        show List.isPrefixOf _ _ = true
        rfl
      · rw [splitL_miss h32] at hs
        cases hs
theorem srcVal_eq {l w x : List UInt8} (h : srcOk l = true) (hs : splitL 32 l = [w, x]) : srcVal l = (readOf ⟨x.toArray⟩).1.data.toList := by
  unfold srcOk at h
  simp only [Bool.and_eq_true] at h
  obtain ⟨r, rfl, ht⟩ := src_has h.1
  unfold srcVal
  rw [ht]
  rw [ht] at h
  rw [splitL_hit r (by decide)] at hs
  have hr : (32 : UInt8) ∉ r := fun hm => by
    have := readOf_blank hm
    rw [this] at h
    exact absurd h.2 (by decide)
  rw [splitL_miss hr] at hs
  simp at hs
  rw [hs.2]
end Go.Proofs.YtjbagjmjbfiddaaGreatDoor
