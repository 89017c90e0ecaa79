/-
  The document's Lines, and its numbers.
-/
import Derived.Test.YtjbagjmjbfiddaaGreatDoorRsplit
namespace Go.Proofs.YtjbagjmjbfiddaaGreatDoor
open Go.ChangeShapes Go.WideShapes Go.ChangeAt Go.RowKit

/-- texts in a slice -/
def Strs (w : World) (a : Option Addr) (ws : List (List UInt8)) : Prop := ∀ (j : Nat) (p : List UInt8), ws[j]? = some p → ∃ b, a = some ⟨b, 0, none⟩ ∧ w.cell? ⟨b, j, none⟩ = some (mkS p)
theorem Strs.keep {w w' : World} {a : Option Addr} {ws : List (List UInt8)} (h : Strs w a ws) (hb : Below w.heap.size w w') : Strs w' a ws := by
  intro j p hp
  obtain ⟨b, e, hc⟩ := h j p hp
  exact ⟨b, e, keep1 hb hc⟩
theorem strs_of {w : World} {B : Nat} {v : Value} {ws : List (List UInt8)} (h : w.ownsRow B 9 1 v ws.length (ws.map mkS)) (hne : ws ≠ []) : ∃ g c, v = .slice (some ⟨g, 0, none⟩) ws.length c ∧ ws.length ≤ c ∧ B ≤ g ∧ ∀ (j : Nat) (p : List UInt8), ws[j]? = some p → w.cell? ⟨g, j, none⟩ = some (mkS p) := by
  have hl := List.length_pos_iff.2 hne
  rcases h.2 with ⟨_, h2⟩ | ⟨g, cap, cur, hv, hb, hg, hc, _, _, ht⟩
  · omega
  · refine ⟨g, cap, hv, hc, hb, fun j p hp => ?_⟩
    have hj : j < ws.length := (List.getElem?_eq_some_iff.1 hp).1
    have h3 : (ws.map mkS)[j]? = some (mkS p) := by rw [List.getElem?_map, hp]; rfl
    rw [← ht, List.getElem?_take_of_lt (by omega)] at h3
    rw [Lib.cell_of_heap hg]
    simpa using h3
theorem getLastD_at {ws : List (List UInt8)} {q : Nat} {p : List UInt8} (h : ws.length = q + 1) (hp : ws[q]? = some p) : ws.getLastD [] = p := by
  rw [List.getLastD_eq_getLast?, List.getLast?_eq_getElem?, h]
  show ws[q]?.getD [] = p
  rw [hp]
  rfl

set_option maxHeartbeats 1000000 in
set_option maxRecDepth 100000 in
theorem lines_any (s : ByteArray) (hs : s.size ≤ 1000000) (w : World) :
    Calls Tryz.prog 29 #[.string s] w fun e w' => ∃ a c, e = .returned (.slice a (linesL s.data.toList).length c) ∧ Strs w' a (linesL s.data.toList) ∧ (linesL s.data.toList).length ≤ s.size + 1 ∧ Below w.heap.size w w' := by
  have hsp := split_any s 10 hs w.heap.size w (Nat.le_refl _)
  have hne := splitL_ne 10 s.data.toList
  have hll : linesL s.data.toList = if (splitL 10 s.data.toList).getLastD [] = [] then (splitL 10 s.data.toList).dropLast else splitL 10 s.data.toList := rfl
  generalize splitL 10 s.data.toList = R at *
  generalize linesL s.data.toList = L at *
  have HL := Lib.hid hll
  clear hll
  go_enter Tryz.func29, Tryz.ntmps29
  go_wp2_with (go_at_call 42; refine hsp.mono ?_)
  clear hsp
  rintro e W1 ⟨v, rfl, hown, hsz, hb⟩
  obtain ⟨g, c, rfl, hc, hg, hat⟩ := strs_of hown hne
  have HB := Lib.hid hb
  have HAT := Lib.hid hat
  obtain ⟨q, hq⟩ : ∃ q, R.length = q + 1 := ⟨R.length - 1, by have := List.length_pos_iff.2 hne; omega⟩
  obtain ⟨p, hp⟩ : ∃ p, R[q]? = some p := ⟨_, List.getElem?_eq_getElem (by omega)⟩
  have hcell := hat q p hp
  unfold mkS at hcell
  obtain ⟨ps, hps⟩ : ∃ ps : ByteArray, (⟨p.toArray⟩ : ByteArray) = ps := ⟨_, rfl⟩
  have hpl : p = ps.data.toList := by rw [← hps]
  rw [hps] at hcell
  have hlast := getLastD_at hq hp
  have HQ := Lib.hid hq
  have HLAST := Lib.hid hlast
  rw [hq] at hc hsz ⊢
  clear hown hb hat hq hp hlast hne hps
  have i0 : (0 : Int) ≤ (q : Int) := by omega
  have i1 : (q : Int) < (q : Int) + 1 := by omega
  have i2 : (q : Int) ≤ (c : Int) := by omega
  by_cases hpe : p = []
  · have b0 : (ps.toList == []) = true := by rw [ByteArray.toList_eq, ← hpl, hpe]; rfl
    have hL : L = R.dropLast := by rw [HL.out, HLAST.out, if_pos hpe]
    have hLl : L.length = q := by rw [hL, List.length_dropLast, HQ.out]; omega
    have HS := Lib.hid (show Strs W1 (some ⟨g, 0, none⟩) L by
      intro j x hx
      have hj : j < q := by have := (List.getElem?_eq_some_iff.1 hx).1; omega
      refine ⟨g, rfl, HAT.out j x ?_⟩
      rw [hL, List.getElem?_dropLast, HQ.out] at hx
      split at hx
      · exact hx
      · cases hx)
    have HLL := Lib.hid hLl
    clear hpe hL hLl hpl
    go_wp2_with fail
    go_ret
    exact ⟨_, _, by rw [HLL.out]; rfl, HS.out, by have := HLL.out; omega, HB.out⟩
  · have b0 : (ps.toList == []) = false := by rw [ByteArray.toList_eq, ← hpl, ← Bool.not_eq_true]; simpa using hpe
    have hL : L = R := by rw [HL.out, HLAST.out, if_neg hpe]
    have hLl : L.length = q + 1 := by rw [hL, HQ.out]
    have HS := Lib.hid (show Strs W1 (some ⟨g, 0, none⟩) L by
      intro j x hx
      rw [hL] at hx
      exact ⟨g, rfl, HAT.out j x hx⟩)
    have HLL := Lib.hid hLl
    clear hpe hL hLl hpl
    go_wp2_with fail
    go_ret
    exact ⟨_, _, by rw [HLL.out]; rfl, HS.out, by have := HLL.out; omega, HB.out⟩
end Go.Proofs.YtjbagjmjbfiddaaGreatDoor
