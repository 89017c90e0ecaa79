/-
  The document's digits: what each small function answers.
-/
import Derived.Test.YtjbagjmjbfiddaaGreatDoorRows
import Derived.WalkKit
import Derived.ProofKit
import Derived.OpenShut
import Derived.WalkLawsBesides
import Derived.WalkSpells
import Derived.Handy
import Derived.Lib.Hide
import Derived.Deep.QuietTactic
import Derived.BigQuiet
namespace Go.Proofs.YtjbagjmjbfiddaaGreatDoor
open Go.ChangeShapes Go.WideShapes Go.ChangeAt Go.RowKit

theorem ret_bool {a b : Bool} (h : a = b) : Ending.returned (.bool a) = .returned (.bool b) := by rw [h]
theorem ret_int {k : IntKind} {a b : Int} (h : a = b) : Ending.returned (.int k a) = .returned (.int k b) := by rw [h]

/-- the sixteen digits -/
def hx (k : Nat) : Int := if k < 10 then 48 + k else 87 + k
def dig (c : Int) : Int := if 48 ≤ c ∧ c ≤ 57 then c - 48 else if 97 ≤ c ∧ c ≤ 102 then c - 87 else -1
theorem dig_hit {c : Int} {k : Nat} (hk : k < 16) (h : hx k = c) : dig c = k := by unfold hx at h; unfold dig; split at h <;> split <;> (try split) <;> omega
theorem dig_none {c : Int} (h : ∀ j, j < 16 → hx j ≠ c) : dig c = -1 := by
  unfold dig
  split
  · have := h (c - 48).toNat (by omega); unfold hx at this; rw [if_pos (by omega)] at this; omega
  · split
    · have := h (c - 87).toNat (by omega); unfold hx at this; rw [if_neg (by omega)] at this; omega
    · rfl

def sixteen : ByteArray := ⟨#[48, 49, 50, 51, 52, 53, 54, 55, 56, 57, 97, 98, 99, 100, 101, 102]⟩
theorem sixteen_all : ∀ k : Fin 16, ((sixteen[k.1]'(Nat.lt_of_lt_of_eq k.2 rfl)).toNat : Int) = hx k.1 := by decide
theorem sixteen_at (k : Nat) (h : k < 16) (h' : k < (⟨#[48, 49, 50, 51, 52, 53, 54, 55, 56, 57, 97, 98, 99, 100, 101, 102]⟩ : ByteArray).size) :
    (((⟨#[48, 49, 50, 51, 52, 53, 54, 55, 56, 57, 97, 98, 99, 100, 101, 102]⟩ : ByteArray)[k]'h').toNat : Int) = hx k := sixteen_all ⟨k, h⟩

set_option maxRecDepth 100000 in
theorem digit_any (c : Int) (w : World) : Calls Tryz.prog 57 #[.int .u8 c] w fun e w' => e = .returned (.int .i64 (dig c)) ∧ w' = w := by
  go_enter Tryz.func57, Tryz.ntmps57
  go_wp2_with fail
  go_loopw [3] (fun i wr => ∃ k : Nat, k ≤ 16 ∧ i = .int .i64 k ∧ (∀ j, j < k → hx j ≠ c) ∧ wr = w) (fun i _ => 16 - (intOf i).toNat)
  case atStart => exact ⟨0, Nat.zero_le _, rfl, fun j hj => absurd hj (Nat.not_lt_zero j), rfl⟩
  case round =>
    obtain ⟨k, hk, rfl, hnone, rfl⟩ := hrel
    have HN := Lib.hid hnone
    clear hnone
    by_cases hlt : k < 16
    · by_cases hc : hx k = c
      · have hb : (hx k == c) = true := by simp [hc]
        go_wp2_with (rw [sixteen_at k hlt] at *)
        go_ret
        exact ⟨ret_int (dig_hit hlt hc).symm, rfl⟩
      · have hb : (hx k == c) = false := by simp [hc]
        go_wp2_with (rw [sixteen_at k hlt] at *)
        refine ⟨⟨k + 1, by omega, by go_num, fun j hj => ?_, trivial⟩, by simp [intOf]; omega⟩
        rcases Nat.lt_or_ge j k with h | h
        · exact HN.out j h
        · rw [show j = k by omega]; exact hc
    · have hkl : k = 16 := by omega
      go_wp2_with fail
      go_ret
      exact ⟨ret_int (dig_none (by rw [← hkl]; exact HN.out)).symm, rfl⟩
end Go.Proofs.YtjbagjmjbfiddaaGreatDoor
