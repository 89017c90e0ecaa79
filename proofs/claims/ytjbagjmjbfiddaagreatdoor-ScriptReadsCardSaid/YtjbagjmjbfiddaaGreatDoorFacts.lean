/-
  What is written in digits is read again.
-/
import Derived.Test.YtjbagjmjbfiddaaGreatDoorDigits
namespace Go.Proofs.YtjbagjmjbfiddaaGreatDoor

theorem sat_bd (b : ByteArray) (j : Nat) : 0 ≤ sat b j ∧ sat b j < 256 := by
  unfold sat
  split
  · have := (b[j]'(by assumption)).toNat_lt; omega
  · omega
theorem hexes_at (b : ByteArray) : ∀ (k j : Nat), j < k → (hexes b k)[2 * j]? = some (UInt8.ofNat (hx ((sat b j).toNat / 16)).toNat) ∧ (hexes b k)[2 * j + 1]? = some (UInt8.ofNat (hx ((sat b j).toNat % 16)).toNat)
  | 0, j, h => absurd h (Nat.not_lt_zero j)
  | k + 1, j, h => by
    show (hexes b k ++ _)[2 * j]? = _ ∧ (hexes b k ++ _)[2 * j + 1]? = _
    rcases Nat.lt_or_ge j k with hj | hj
    · have := hexes_at b k j hj
      rw [List.getElem?_append_left (by rw [hexes_len]; omega), List.getElem?_append_left (by rw [hexes_len]; omega)]
      exact this
    · obtain rfl : j = k := by omega
      rw [List.getElem?_append_right (by rw [hexes_len]; omega), List.getElem?_append_right (by rw [hexes_len]; omega), hexes_len, show 2 * j - 2 * j = 0 by omega, show 2 * j + 1 - 2 * j = 1 by omega]
      exact ⟨rfl, rfl⟩
theorem sat_list (l : List UInt8) (i : Nat) (x : UInt8) (h : l[i]? = some x) : sat ⟨l.toArray⟩ i = x.toNat := by
  obtain ⟨hi, hx⟩ := List.getElem?_eq_some_iff.1 h
  unfold sat
  have hs : i < (⟨l.toArray⟩ : ByteArray).size := by show i < l.toArray.size; simpa using hi
  rw [dif_pos hs]
  show ((l.toArray[i]).toNat : Int) = _
  simp [hx]
theorem readOf_hexOf (b : ByteArray) : readOf (hexOf b) = (b, true) := by
  by_cases h0 : b.toList = []
  · have hb : b = ⟨#[]⟩ := by
      rw [ByteArray.toList_eq] at h0
      rcases b with ⟨⟨l⟩⟩
      simp at h0
      rw [h0]
    unfold hexOf
    rw [if_pos h0, hb]
    unfold readOf
    rw [if_pos (by rw [ByteArray.toList_eq])]
  · have hs : 0 < b.size := by
      rcases Nat.eq_zero_or_pos b.size with h | h
      · exact absurd (show b.toList = [] by rw [ByteArray.toList_eq]; exact List.length_eq_zero_iff.mp h) h0
      · exact h
    have hh : hexOf b = ⟨(hexes b b.size).toArray⟩ := by unfold hexOf; rw [if_neg h0]
    have hsz : (hexOf b).size = 2 * b.size := by rw [hh]; show (hexes b b.size).toArray.size = _; simp [hexes_len]
    have hlist : (hexOf b).toList = hexes b b.size := by rw [ByteArray.toList_eq, hh]
    have hat : ∀ j, j < b.size → dig (sat (hexOf b) (2 * j)) = ((sat b j).toNat / 16 : Nat) ∧ dig (sat (hexOf b) (2 * j + 1)) = ((sat b j).toNat % 16 : Nat) := by
      intro j hj
      obtain ⟨e0, e1⟩ := hexes_at b b.size j hj
      have hc := sat_bd b j
      rw [hh, sat_list _ _ _ e0, sat_list _ _ _ e1, hx_u8 (by omega), hx_u8 (by omega)]
      exact ⟨dig_hit (by omega) rfl, dig_hit (by omega) rfl⟩
    unfold readOf
    rw [if_neg (fun h => by rw [hlist] at h; have := congrArg List.length h; rw [hexes_len] at this; simp at this; omega),
      if_neg (fun h => by
        rcases h with h | h
        · rw [hlist] at h; have := congrArg List.length h; rw [hexes_len] at this; simp at this; omega
        · rw [hsz] at h; omega),
      if_pos (fun j hj => by
        rw [hsz] at hj
        obtain ⟨a0, a1⟩ := hat j (by omega)
        exact ⟨by rw [a0]; omega, by rw [a1]; omega⟩)]
    have hv : vals (hexOf b) ((hexOf b).size / 2) = b.data.toList := by
      rw [hsz, show 2 * b.size / 2 = b.size by omega]
      apply List.ext_getElem
      · rw [vals_len]; simp
      · intro j h1 h2
        rw [vals_len] at h1
        obtain ⟨a0, a1⟩ := hat j h1
        have hc := sat_bd b j
        have hsj : sat b j = (b[j]'h1).toNat := by unfold sat; rw [dif_pos h1]
        simp only [vals, List.getElem_map, List.getElem_range]
        have : two (hexOf b) j = sat b j := by unfold two; rw [a0, a1]; omega
        rw [this, hsj]
        show UInt8.ofNat (b[j]'h1).toNat = b.data[j]
        simp
        rfl
    rw [hv]
end Go.Proofs.YtjbagjmjbfiddaaGreatDoor
