/-
  The document's numbers written in tens.
-/
import Derived.Test.YtjbagjmjbfiddaaGreatDoorTexts
namespace Go.Proofs.YtjbagjmjbfiddaaGreatDoor
open Go.ChangeShapes Go.WideShapes Go.ChangeAt Go.RowKit

theorem mk_append (a b : List UInt8) : (⟨a.toArray⟩ ++ ⟨b.toArray⟩ : ByteArray) = ⟨(a ++ b).toArray⟩ := by
  apply ByteArray.ext
  simp
theorem one_digit : ∀ n : Fin 10, (⟨#[48, 49, 50, 51, 52, 53, 54, 55, 56, 57]⟩ : ByteArray).extract n.1 (n.1 + 1) = ⟨[UInt8.ofNat (48 + n.1)].toArray⟩ := by decide

theorem dec_len (n : Nat) : (Lib.decDigits n).length ≤ n + 1 := by
  induction n using Nat.strongRecOn with
  | ind n ih =>
    rw [Lib.decDigits]
    split
    · simp
    · have := ih (n / 10) (by omega)
      simp
      omega
theorem dec_size (n : Nat) : (⟨(Lib.decDigits n).toArray⟩ : ByteArray).size ≤ n + 1 := by
  have := dec_len n
  show (Lib.decDigits n).toArray.size ≤ _
  simpa using this
set_option maxHeartbeats 800000 in
set_option maxRecDepth 100000 in
theorem dec_nat : ∀ (n : Nat), n ≤ 1000000000000 → ∀ w : World, Calls Tryz.prog 22 #[.int .i64 (n : Int)] w fun e w' => e = .returned (.string ⟨(Lib.decDigits n).toArray⟩) ∧ w' = w := by
  intro n
  induction n using Nat.strongRecOn with
  | ind n ih =>
    intro hn w
    have i0 : decide ((n : Int) < 0) = false := decide_eq_false (by omega)
    by_cases h10 : n < 10
    · have i1 : decide ((n : Int) < 10) = true := decide_eq_true (by omega)
      go_enter Tryz.func22, Tryz.ntmps22
      go_wp2_with fail
      go_ret
      refine ⟨?_, rfl⟩
      rw [Lib.decDigits_one h10]
      exact congrArg (fun x => Ending.returned (Value.string x)) (one_digit ⟨n, h10⟩)
    · have i1 : decide ((n : Int) < 10) = false := decide_eq_false (by omega)
      obtain ⟨a, ha⟩ : ∃ a, n / 10 = a := ⟨_, rfl⟩
      obtain ⟨b, hb⟩ : ∃ b, n % 10 = b := ⟨_, rfl⟩
      have i2 : (n : Int) / 10 = (a : Int) := by omega
      have i3 : (n : Int) % 10 = (b : Int) := by omega
      have hA := ih a (by omega) (by omega)
      have hB := ih b (by omega) (by omega)
      have hd : Lib.decDigits n = Lib.decDigits a ++ Lib.decDigits b := by
        rw [Lib.decDigits.eq_1 n, dif_neg h10, ha, hb, Lib.decDigits_one (by omega : b < 10)]
      have sa := dec_size a
      have sb := dec_size b
      have hab : a ≤ 1000000000000 ∧ b < 10 := by omega
      obtain ⟨u, hu⟩ : ∃ u, (⟨(Lib.decDigits a).toArray⟩ : ByteArray) = u := ⟨_, rfl⟩
      obtain ⟨v, hv⟩ : ∃ v, (⟨(Lib.decDigits b).toArray⟩ : ByteArray) = v := ⟨_, rfl⟩
      rw [hd, ← mk_append]
      rw [hu] at hA sa ⊢
      rw [hv] at hB sb ⊢
      have HA := Lib.hid hA
      have HB := Lib.hid hB
      clear hA hB ih ha hb hd hu hv
      go_enter Tryz.func22, Tryz.ntmps22
      go_wp2_with fail
      refine (HA.out w).mono ?_
      rintro e w1 ⟨rfl, rfl⟩
      go_wp2_with fail
      refine (HB.out w1).mono ?_
      rintro e w2 ⟨rfl, rfl⟩
      go_wp2_with fail
      go_ret
      exact ⟨rfl, rfl⟩
set_option maxRecDepth 100000 in
theorem dec_any (n : Int) (h0 : -1000000000000 ≤ n) (h1 : n ≤ 1000000000000) (w : World) : Calls Tryz.prog 22 #[.int .i64 n] w fun e w' => e = .returned (.string ⟨(Lib.itoa n).toArray⟩) ∧ w' = w := by
  by_cases hn : n < 0
  · have i0 : decide (n < 0) = true := decide_eq_true hn
    obtain ⟨m, hm⟩ : ∃ m : Nat, -n = (m : Int) := ⟨(-n).toNat, by omega⟩
    have i2 : IntKind.i64.wrap (-n) = (m : Int) := (IntWalk.i64_in _ (by omega)).trans hm
    have hd : Lib.itoa n = [45] ++ Lib.decDigits m := by
      unfold Lib.itoa
      rw [if_pos hn, show n.natAbs = m by omega]
      rfl
    have hmb : m ≤ 1000000000000 := by omega
    have sm := dec_size m
    obtain ⟨u, hu⟩ : ∃ u, (⟨(Lib.decDigits m).toArray⟩ : ByteArray) = u := ⟨_, rfl⟩
    have hdec := dec_nat m hmb w
    rw [hd, ← mk_append]
    rw [hu] at hdec sm ⊢
    clear hd hm hu
    go_enter Tryz.func22, Tryz.ntmps22
    go_wp2_with fail
    refine hdec.mono ?_
    rintro e w1 ⟨rfl, rfl⟩
    go_wp2_with fail
    go_ret
    exact ⟨rfl, rfl⟩
  · obtain ⟨m, rfl⟩ : ∃ m : Nat, n = (m : Int) := ⟨n.toNat, by omega⟩
    have hd : Lib.itoa (m : Int) = Lib.decDigits m := by
      unfold Lib.itoa
      rw [if_neg hn]
      rfl
    rw [hd]
    exact dec_nat m (by omega) w
end Go.Proofs.YtjbagjmjbfiddaaGreatDoor
