/-
  A bit turned over: another byte.
-/
import Derived.Test.YtoaohoeghlidaaaGreatDoorPure
import Derived.Laws.ShiftsVarLaws
import Derived.Laws.Bits64
namespace Go.Proofs.YtoaohoeghlidaaaGreatDoor

theorem flip_lt : ∀ n : Fin 256, ∀ k : Fin 8, n.val ^^^ 2 ^ k.val < 256 ∧ n.val ^^^ 2 ^ k.val ≠ n.val := by decide +kernel
theorem flip_bits : ∀ n : Fin 256, ∀ k : Fin 8, bits .xor .u8 (n.val : Int) (2 ^ k.val) = ((n.val ^^^ 2 ^ k.val : Nat) : Int) := by decide +kernel
theorem flip_shl : ∀ k : Fin 8, (2 : Int) ^ min ((k.val : Int)).toNat 8 % 256 = 2 ^ k.val := by decide +kernel

theorem flip_u8 (b : UInt8) (k : Nat) (hk : k < 8) : ∃ c : UInt8, c ≠ b ∧ bits .xor .u8 (b.toNat : Int) (2 ^ k) = (c.toNat : Int) := by
  obtain ⟨hl, hn⟩ := flip_lt ⟨b.toNat, b.toNat_lt⟩ ⟨k, hk⟩
  have he := flip_bits ⟨b.toNat, b.toNat_lt⟩ ⟨k, hk⟩
  refine ⟨UInt8.ofNat (b.toNat ^^^ 2 ^ k), ?_, ?_⟩
  · intro h
    apply hn
    have := congrArg UInt8.toNat h
    rw [UInt8.toNat_ofNat_of_lt' hl] at this
    exact this
  · rw [UInt8.toNat_ofNat_of_lt' hl]
    exact he

/-- one byte put in place: another list -/
theorem set_ne {B : List UInt8} {i : Nat} {b c : UInt8} (hi : B[i]? = some b) (hc : c ≠ b) : B.set i c ≠ B := by
  intro h
  apply hc
  have hlt : i < B.length := by
    rcases Nat.lt_or_ge i B.length with h | h
    · exact h
    · rw [List.getElem?_eq_none h] at hi; exact absurd hi (by simp)
  have := congrArg (fun l => l[i]?) h
  simp only [List.getElem?_set_self hlt, hi, Option.some.injEq] at this
  exact this

/-- what is read from other bytes is another image -/
theorem read_ne {B C : List UInt8} {x : ImgD} (hB : layOf x = ⟨B, false⟩) (hC : readOk C = true) (hne : C ≠ B) : (readSt C).1 ≠ x := by
  intro h
  have := read_lay hC
  rw [h, hB] at this
  injection this with h1 _
  exact hne h1.symm
end Go.Proofs.YtoaohoeghlidaaaGreatDoor
