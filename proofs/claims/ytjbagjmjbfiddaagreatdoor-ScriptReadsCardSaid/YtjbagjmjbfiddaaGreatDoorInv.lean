/-
  What is written is read again: the pure facts.
-/
import Derived.Test.YtjbagjmjbfiddaaGreatDoorTexts2
import Derived.Test.YtjbagjmjbfiddaaGreatDoorFacts
import Derived.Test.YtjbagjmjbfiddaaGreatDoorPrint
namespace Go.Proofs.YtjbagjmjbfiddaaGreatDoor

theorem digit_dec {d : Nat} (h : d < 10) : Lib.digitVal (UInt8.ofNat (48 + d)) = some d := by
  have e : (UInt8.ofNat (48 + d)).toNat = 48 + d := by rw [UInt8.toNat_ofNat']; omega
  unfold Lib.digitVal
  rw [e, if_pos (by omega)]
  congr 1
  omega
theorem decFrom_snoc : ∀ (l : List UInt8) (acc n d : Nat) (b : UInt8), Lib.decFrom acc l = some n → Lib.digitVal b = some d → Lib.decFrom acc (l ++ [b]) = some (n * 10 + d)
  | [], acc, n, d, b, h, hd => by
    have : acc = n := Option.some.inj h
    subst this
    show Lib.decFrom acc [b] = _
    unfold Lib.decFrom
    rw [hd]
    rfl
  | c :: r, acc, n, d, b, h, hd => by
    rw [List.cons_append]
    unfold Lib.decFrom at h ⊢
    cases hc : Lib.digitVal c with
    | none => rw [hc] at h; cases h
    | some e =>
      rw [hc] at h
      exact decFrom_snoc r _ n d b h hd
theorem decFrom_dec : ∀ (k u : Nat), u ≤ k → Lib.decFrom 0 (Lib.decDigits u) = some u
  | 0, u, h => by
    obtain rfl : u = 0 := by omega
    rw [Lib.decDigits_one (by decide)]
    rfl
  | k + 1, u, h => by
    by_cases hu : u < 10
    · rw [Lib.decDigits_one hu]
      unfold Lib.decFrom
      rw [digit_dec hu]
      simp [Lib.decFrom]
    · rw [Lib.decDigits, dif_neg hu]
      have := decFrom_snoc _ 0 (u / 10) (u % 10) _ (decFrom_dec k (u / 10) (by omega)) (digit_dec (Nat.mod_lt u (by decide)))
      rw [this]
      congr 1
      omega
theorem dec_mem : ∀ (k u : Nat), u ≤ k → ∀ b ∈ Lib.decDigits u, 48 ≤ b.toNat ∧ b.toNat ≤ 57
  | 0, u, h, b, hb => by
    obtain rfl : u = 0 := by omega
    rw [Lib.decDigits_one (by decide)] at hb
    simp at hb
    subst hb
    decide
  | k + 1, u, h, b, hb => by
    by_cases hu : u < 10
    · rw [Lib.decDigits_one hu] at hb
      obtain rfl := List.mem_singleton.1 hb
      rw [UInt8.toNat_ofNat']
      omega
    · rw [Lib.decDigits, dif_neg hu] at hb
      rcases List.mem_append.1 hb with hb | hb
      · exact dec_mem k (u / 10) (by omega) b hb
      · obtain rfl := List.mem_singleton.1 hb
        rw [UInt8.toNat_ofNat']
        omega
theorem dec_ne (u : Nat) : Lib.decDigits u ≠ [] := by
  rw [Lib.decDigits]
  split <;> simp
theorem itoa_mem {n : Int} {b : UInt8} (h : b ∈ Lib.itoa n) : b.toNat = 45 ∨ (48 ≤ b.toNat ∧ b.toNat ≤ 57) := by
  unfold Lib.itoa at h
  split at h
  · rcases List.mem_cons.1 h with rfl | h
    · exact .inl (by decide)
    · exact .inr (dec_mem _ _ (Nat.le_refl _) b h)
  · exact .inr (dec_mem _ _ (Nat.le_refl _) b h)
theorem itoa_no {n : Int} {c : UInt8} (h : c.toNat < 45) : c ∉ Lib.itoa n := fun hc => by
  have := itoa_mem hc
  omega
theorem atoi_itoa (n : Int) : Lib.atoi (Lib.itoa n) = some n := by
  unfold Lib.itoa
  have hN : ∀ u : Nat, Lib.decNat (Lib.decDigits u) = some u := fun u => by
    unfold Lib.decNat
    rw [if_neg (by simpa using dec_ne u), decFrom_dec u u (Nat.le_refl _)]
  split
  · rename_i h
    show (if ((45 : UInt8) == 45) = true then (Lib.decNat (Lib.decDigits n.natAbs)).map fun (m : Nat) => -(m : Int) else if ((45 : UInt8) == 43) = true then (Lib.decNat (Lib.decDigits n.natAbs)).map fun (m : Nat) => (m : Int) else (Lib.decNat (45 :: Lib.decDigits n.natAbs)).map fun (m : Nat) => (m : Int)) = _
    rw [if_pos (by decide), hN]
    show some (-(n.natAbs : Int)) = _
    congr 1
    omega
  · rename_i h
    have hx := hN n.toNat
    have hm := dec_mem _ n.toNat (Nat.le_refl _)
    cases hd : Lib.decDigits n.toNat with
    | nil => exact absurd hd (dec_ne _)
    | cons b r =>
      rw [hd] at hx hm
      have hb := hm b (by simp)
      show (if (b == 45) = true then (Lib.decNat r).map fun (m : Nat) => -(m : Int) else if (b == 43) = true then (Lib.decNat r).map fun (m : Nat) => (m : Int) else (Lib.decNat (b :: r)).map fun (m : Nat) => (m : Int)) = _
      rw [if_neg (by intro e; have := beq_iff_eq.1 e; subst this; revert hb; decide), if_neg (by intro e; have := beq_iff_eq.1 e; subst this; revert hb; decide), hx]
      show some ((n.toNat : Nat) : Int) = _
      congr 1
      omega
theorem isNum_iff (n : Int) : isNum n = true ↔ -2147483648 ≤ n ∧ n ≤ 2147483648 := by unfold isNum; simp
theorem numOf_itoa {n : Int} (h : isNum n = true) : numOf ⟨(Lib.itoa n).toArray⟩ = some n := by
  have hr := (isNum_iff n).1 h
  refine numOf_ok ?_ ?_ hr.1 hr.2 rfl
  · rw [mk_size]; exact itoa_len h
  · exact atoi_itoa n
theorem numOf_some {s : ByteArray} {n : Int} (h : numOf s = some n) : isNum n = true ∧ s.data.toList = Lib.itoa n := by
  unfold numOf at h
  split at h
  · split at h
    · split at h
      · rename_i hr
        obtain rfl := Option.some.inj h
        refine ⟨(isNum_iff _).2 ⟨hr.1, hr.2.1⟩, ?_⟩
        have := hr.2.2
        simp only [ByteArray.toList_eq] at this
        exact this.symm
      · cases h
    · cases h
  · cases h

/-- a text at each of a byte -/
def splitL (c : UInt8) : List UInt8 → List (List UInt8)
  | [] => [[]]
  | x :: r => if x = c then [] :: splitL c r else (x :: (splitL c r).headD []) :: (splitL c r).tail
theorem splitL_miss {c : UInt8} : ∀ {l : List UInt8}, c ∉ l → splitL c l = [l]
  | [], _ => rfl
  | x :: r, h => by
    have h1 : x ≠ c := fun e => h (by simp [e])
    have h2 : c ∉ r := fun e => h (by simp [e])
    unfold splitL
    rw [if_neg h1, splitL_miss h2]
    rfl
theorem splitL_hit {c : UInt8} : ∀ {a : List UInt8} (r : List UInt8), c ∉ a → splitL c (a ++ c :: r) = a :: splitL c r
  | [], r, _ => by show splitL c (c :: r) = _; rw [splitL, if_pos rfl]
  | x :: a, r, h => by
    have h1 : x ≠ c := fun e => h (by simp [e])
    have h2 : c ∉ a := fun e => h (by simp [e])
    rw [List.cons_append, splitL, if_neg h1, splitL_hit r h2]
    rfl
theorem index_one (c : UInt8) : ∀ l : List UInt8, (c ∈ l → ∃ a r, l = a ++ c :: r ∧ c ∉ a ∧ Lib.index l [c] = a.length) ∧ (c ∉ l → Lib.index l [c] = -1)
  | [] => ⟨fun h => by simp at h, fun _ => rfl⟩
  | x :: r => by
    obtain ⟨h1, h2⟩ := index_one c r
    by_cases hx : x = c
    · subst hx
      refine ⟨fun _ => ⟨[], r, rfl, by simp, ?_⟩, fun h => absurd (by simp) h⟩
      unfold Lib.index
      simp
    · have hp : List.isPrefixOf [c] (x :: r) = false := by simp [List.isPrefixOf]; exact fun h => hx h.symm
      refine ⟨fun h => ?_, fun h => ?_⟩
      · have hr : c ∈ r := by
          rcases List.mem_cons.1 h with h | h
          · exact absurd h.symm hx
          · exact h
        obtain ⟨a, q, e, ha, hi⟩ := h1 hr
        refine ⟨x :: a, q, by rw [e]; rfl, fun hm => ?_, ?_⟩
        · rcases List.mem_cons.1 hm with h | h
          · exact hx h.symm
          · exact ha h
        · unfold Lib.index
          rw [hp, hi]
          simp
          try omega
      · have hr : c ∉ r := fun h' => h (by simp [h'])
        unfold Lib.index
        rw [hp, h2 hr]
        rfl
theorem splitK_L (c : UInt8) : ∀ (f : Nat) (l : List UInt8), l.length ≤ f → Lib.splitK [c] 0 (Lib.countFrom [c] f l) l = splitL c l
  | 0, l, h => by
    obtain rfl := List.length_eq_zero_iff.1 (Nat.le_zero.1 h)
    rfl
  | f + 1, l, h => by
    obtain ⟨h1, h2⟩ := index_one c l
    by_cases hc : c ∈ l
    · obtain ⟨a, r, e, ha, hi⟩ := h1 hc
      have hd : l.drop (a.length + 1) = r := by rw [e]; simp
      have hn : ¬ (Lib.index l [c] == -1) = true := by rw [hi]; simp <;> omega
      unfold Lib.countFrom
      rw [if_neg hn, Nat.add_comm 1]
      unfold Lib.splitK
      rw [if_neg hn, hi]
      show l.take (a.length + 0) :: Lib.splitK [c] 0 (Lib.countFrom [c] f (l.drop (a.length + 1))) (l.drop (a.length + 1)) = _
      rw [hd, splitK_L c f r (by rw [e] at h; simp at h; omega)]
      rw [e, splitL_hit r ha]
      simp
    · have hi := h2 hc
      unfold Lib.countFrom
      rw [if_pos (by rw [hi]; rfl), splitL_miss hc]
      rfl
theorem words_list (s : ByteArray) : (wordsOf s).map (·.data.toList) = splitL 32 s.data.toList := by
  unfold wordsOf
  rw [Lib.splitB_data]
  exact splitK_L 32 _ _ (by first | exact Nat.le_succ _ | (simp))

def numL (l : List UInt8) : Option Int := numOf ⟨l.toArray⟩
def scanOkL : List (List UInt8) → Bool
  | w :: r => w == [115, 99, 97, 110] && decide (1 ≤ r.length) && decide (r.length ≤ 17) && r.all fun x => (numL x).isSome
  | [] => false
theorem scanOk_eq (s : ByteArray) : scanOk s = scanOkL (splitL 32 s.data.toList) := by
  rw [← words_list]
  unfold scanOk
  cases wordsOf s with
  | nil => rfl
  | cons w r =>
    show _ = (w.data.toList == [115, 99, 97, 110] && decide (1 ≤ (r.map (·.data.toList)).length) && decide ((r.map (·.data.toList)).length ≤ 17) && (r.map (·.data.toList)).all fun x => (numL x).isSome)
    rw [List.length_map, List.all_map]
    simp only [ByteArray.toList_eq]
    rfl
def scanValL (ws : List (List UInt8)) : Int × List Int := let l := (ws.drop 1).map fun x => (numL x).getD 0; (l.headD 0, l.tail)
theorem scanVal_eq (s : ByteArray) : scanVal s = scanValL (splitL 32 s.data.toList) := by
  rw [← words_list]
  unfold scanVal scanValL
  simp only [← List.map_drop, List.map_map]
  rfl
end Go.Proofs.YtjbagjmjbfiddaaGreatDoor
