/-
  The document's numbers.
-/
import Derived.Test.YtjbagjmjbfiddaaGreatDoorRlines
namespace Go.Proofs.YtjbagjmjbfiddaaGreatDoor
open Go.ChangeShapes Go.WideShapes Go.ChangeAt Go.RowKit

def ofD (o : Option Nat) : Value := .tuple #[.int .i64 (o.getD 0 : Nat), .bool o.isSome]
theorem at_getElem (s : ByteArray) (k : Nat) (h : k < s.size) : s.data.toList[k]? = some (s[k]'h) := by
  rw [List.getElem?_eq_getElem (by show k < s.data.toList.length; exact h)]
  rfl
set_option maxHeartbeats 1000000 in
set_option maxRecDepth 100000 in
theorem digits_any (s : ByteArray) (w : World) :
    Calls Tryz.prog 58 #[.string s] w fun e w' => e = .returned (ofD (digOf s.data.toList)) ∧ w' = w := by
  have hl : s.data.toList.length = s.size := rfl
  have hdo : digOf s.data.toList = if s.data.toList.length < 1 ∨ 10 < s.data.toList.length ∨ (s.data.toList.headD 0 = 48 ∧ 1 < s.data.toList.length) then none else match Lib.decFrom 0 s.data.toList with | some n => if n ≤ 2147483648 then some n else none | none => none := rfl
  rw [hl] at hdo
  generalize digOf s.data.toList = D at *
  by_cases h0 : s.size < 1
  · have d0 : decide ((s.size : Int) < 1) = true := decide_eq_true (by omega)
    rw [if_pos (.inl h0)] at hdo
    subst hdo
    go_enter Tryz.func58, Tryz.ntmps58
    go_wp2_with fail
    go_ret2
    exact ⟨rfl, rfl⟩
  · have d0 : decide ((s.size : Int) < 1) = false := decide_eq_false (by omega)
    by_cases h10 : 10 < s.size
    · have d1 : decide ((10 : Int) < (s.size : Int)) = true := decide_eq_true (by omega)
      rw [if_pos (.inr (.inl h10))] at hdo
      subst hdo
      go_enter Tryz.func58, Tryz.ntmps58
      go_wp2_with fail
      go_ret2
      exact ⟨rfl, rfl⟩
    · have d1 : decide ((10 : Int) < (s.size : Int)) = false := decide_eq_false (by omega)
      have g0 : 0 < s.size := by omega
      have i0 : (0 : Int) < (s.size : Int) := by omega
      have hhd : s.data.toList.headD 0 = s[0]'g0 := by
        have := at_getElem s 0 g0
        generalize s.data.toList = l at this ⊢
        cases l with
        | nil => cases this
        | cons a r => exact Option.some.inj this
      by_cases h48 : (s[0]'g0) = 48 ∧ 1 < s.size
      · have b0 : ((((s[0]'g0).toNat : Nat) : Int) == 48) = true := by rw [h48.1]; rfl
        have d2 : decide ((1 : Int) < (s.size : Int)) = true := decide_eq_true (by omega)
        rw [hhd, if_pos (.inr (.inr h48))] at hdo
        subst hdo
        clear hhd
        go_enter Tryz.func58, Tryz.ntmps58
        go_wp2_with fail
        go_ret2
        exact ⟨rfl, rfl⟩
      · rw [hhd, if_neg (by rintro (h | h | h); exact h0 h; exact h10 h; exact h48 h)] at hdo
        have HD := Lib.hid hdo
        clear hdo hhd
        have hgo : ∀ K : Prop, (((((s[0]'g0).toNat : Nat) : Int) == 48) = false → K) → (((((s[0]'g0).toNat : Nat) : Int) == 48) = true → decide ((1 : Int) < (s.size : Int)) = false → K) → K := by
          intro K k1 k2
          cases hb : ((((s[0]'g0).toNat : Nat) : Int) == 48) with
          | false => exact k1 hb
          | true =>
            refine k2 hb (decide_eq_false fun h => h48 ⟨?_, by omega⟩)
            have h := beq_iff_eq.1 hb
            apply UInt8.toNat_inj.1
            have e : (48 : UInt8).toNat = 48 := rfl
            omega
        clear h48
        refine hgo _ (fun b0 => ?_) (fun b0 d2 => ?_)
        all_goals
          clear hgo
          go_enter Tryz.func58, Tryz.ntmps58
          go_wp2_with fail
          go_loopw [4, 5] (fun nv iv wr => ∃ k acc : Nat, k ≤ s.size ∧ iv = .int .i64 (k : Nat) ∧ nv = .int .i64 (acc : Nat) ∧ Lib.decFrom 0 (s.data.toList.take k) = some acc ∧ wr = w) (fun _ i _ => s.size - (intOf i).toNat)
          case atStart => exact ⟨0, 0, Nat.zero_le _, rfl, rfl, rfl, rfl⟩
          case round =>
            clear b0
            obtain ⟨k, acc, hk, rfl, rfl, hacc, rfl⟩ := hrel
            have hab := Lib.decFrom_take_lt hacc (by omega)
            have HA := Lib.hid hacc
            clear hacc
            by_cases hlt : k < s.size
            · have j0 : (k : Int) < (s.size : Int) := by omega
              have j1 : (0 : Int) ≤ (k : Int) := by omega
              obtain ⟨x, hx⟩ : ∃ x : Nat, (s[k]'hlt).toNat = x := ⟨_, rfl⟩
              have hx256 : x < 256 := by rw [← hx]; exact UInt8.toNat_lt _
              have e0 : ((((s[k]'hlt).toNat : Nat)) : Int) = (x : Int) := by rw [hx]
              by_cases hlo : x < 48
              · have c0 : decide ((x : Int) < 48) = true := decide_eq_true (by omega)
                have hno : Lib.decFrom 0 s.data.toList = none := by
                  cases hd : Lib.decFrom 0 s.data.toList with
                  | none => rfl
                  | some m =>
                    obtain ⟨d, hd'⟩ := Lib.digit_of_decFrom _ 0 m hd k _ (at_getElem s k hlt)
                    have := Lib.digitVal_eq hd'
                    omega
                have hD : D = none := by rw [HD.out, hno]
                subst hD
                clear hno hx
                go_wp2_with fail
                go_ret2
                exact ⟨rfl, rfl⟩
              · have c0 : decide ((x : Int) < 48) = false := decide_eq_false (by omega)
                by_cases hhi : 57 < x
                · have c1 : decide ((57 : Int) < (x : Int)) = true := decide_eq_true (by omega)
                  have hno : Lib.decFrom 0 s.data.toList = none := by
                    cases hd : Lib.decFrom 0 s.data.toList with
                    | none => rfl
                    | some m =>
                      obtain ⟨d, hd'⟩ := Lib.digit_of_decFrom _ 0 m hd k _ (at_getElem s k hlt)
                      have := Lib.digitVal_eq hd'
                      omega
                  have hD : D = none := by rw [HD.out, hno]
                  subst hD
                  clear hno hx
                  go_wp2_with fail
                  go_ret2
                  exact ⟨rfl, rfl⟩
                · have c1 : decide ((57 : Int) < (x : Int)) = false := decide_eq_false (by omega)
                  have hdv : Lib.digitVal (s[k]'hlt) = some (x - 48) := by
                    unfold Lib.digitVal
                    rw [hx, if_pos (by omega)]
                  have hnext := Lib.decFrom_take s.data.toList k 0 acc _ _ HA.out (at_getElem s k hlt) hdv
                  have HN := Lib.hid hnext
                  have w0 : IntKind.u8.wrap ((x : Int) - 48) = (x : Int) - 48 := by simp [IntKind.wrap, IntKind.signed, IntKind.bits]; omega
                  have w1 : IntKind.i64.wrap ((acc : Int) * 10) = (acc : Int) * 10 := IntWalk.i64_in _ (by omega)
                  have w2 : IntKind.i64.wrap ((acc : Int) * 10 + ((x : Int) - 48)) = (acc : Int) * 10 + ((x : Int) - 48) := IntWalk.i64_in _ (by omega)
                  have w3 : IntKind.i64.wrap ((x : Int) - 48) = (x : Int) - 48 := IntWalk.i64_in _ (by omega)
                  clear hnext hdv hx
                  go_wp2_with fail
                  exact ⟨⟨k + 1, acc * 10 + (x - 48), by omega, by go_num, congrArg (Value.int .i64) (by omega), HN.out, trivial⟩, by simp [intOf]; omega⟩
            · obtain rfl : k = s.size := by omega
              have hfin : Lib.decFrom 0 s.data.toList = some acc := by
                have := HA.out
                rw [List.take_of_length_le (by omega)] at this
                exact this
              have hD : D = if acc ≤ 2147483648 then some acc else none := by rw [HD.out, hfin]
              clear hfin
              by_cases hb : 2147483648 < acc
              · have c0 : decide ((2147483648 : Int) < (acc : Int)) = true := decide_eq_true (by omega)
                rw [if_neg (by omega)] at hD
                subst hD
                go_wp2_with fail
                go_ret2
                exact ⟨rfl, rfl⟩
              · have c0 : decide ((2147483648 : Int) < (acc : Int)) = false := decide_eq_false (by omega)
                rw [if_pos (by omega)] at hD
                subst hD
                go_wp2_with fail
                go_ret2
                exact ⟨rfl, rfl⟩

set_option maxHeartbeats 1000000 in
set_option maxRecDepth 100000 in
theorem rnumber_any (s : ByteArray) (w : World) :
    Calls Tryz.prog 44 #[.string s] w fun e w' => e = .returned (.tuple #[.int .i64 ((numOf s).getD 0), .bool (numOf s).isSome]) ∧ w' = w := by
  have hl : s.data.toList.length = s.size := rfl
  have hN : numOf s = refNum s.data.toList := (refNum_eq _).symm
  rw [hN]
  clear hN
  have hrn : refNum s.data.toList = if 1 < s.data.toList.length ∧ s.data.toList.headD 0 = 45 then (match digOf s.data.toList.tail with | some n => if n = 0 then none else some (-(n : Int)) | none => none) else (digOf s.data.toList).map fun (n : Nat) => (n : Int) := rfl
  rw [hl] at hrn
  generalize refNum s.data.toList = R at *
  have hall := digits_any s w
  have key : (¬ (1 < s.size ∧ s.data.toList.headD 0 = 45)) → ∀ K : Value, K = ofD (digOf s.data.toList) → K = .tuple #[.int .i64 (R.getD 0), .bool R.isSome] := by
    intro h K hK
    rw [if_neg h] at hrn
    rw [hrn, hK]
    cases digOf s.data.toList <;> rfl
  by_cases h1 : 1 < s.size
  · have d1 : decide ((1 : Int) < (s.size : Int)) = true := decide_eq_true (by omega)
    have g0 : 0 < s.size := by omega
    have i0 : (0 : Int) < (s.size : Int) := by omega
    have i1 : (1 : Int) ≤ (s.size : Int) := by omega
    have hhd : s.data.toList.headD 0 = s[0]'g0 := by
      have := at_getElem s 0 g0
      generalize s.data.toList = l at this ⊢
      cases l with
      | nil => cases this
      | cons a r => exact Option.some.inj this
    by_cases h45 : (s[0]'g0) = 45
    · have b0 : ((((s[0]'g0).toNat : Nat) : Int) == 45) = true := by rw [h45]; rfl
      rw [hhd, if_pos ⟨h1, h45⟩] at hrn
      have hdt := digits_any (s.extract 1 s.size) w
      have he : (s.extract 1 s.size).data.toList = s.data.toList.tail := by
        rw [extract_mk]
        show ((s.data.toList.drop 1).take (s.size - 1)) = _
        rw [List.take_of_length_le (by rw [List.length_drop]; omega), List.drop_one]
      rw [he] at hdt
      have hbd : ∀ n, digOf s.data.toList.tail = some n → n ≤ 2147483648 := fun n h => (digOf_some h).1
      generalize digOf s.data.toList.tail = D at *
      clear hall key hhd h45 he
      unfold ofD at hdt
      rcases D with _ | n
      · simp only at hrn
        subst hrn
        have hdt : Calls Tryz.prog 58 #[.string (s.extract 1 s.size)] w fun e w' => e = .returned (.tuple #[.int .i64 0, .bool false]) ∧ w' = w := hdt
        go_enter Tryz.func44, Tryz.ntmps44
        go_wp2_with (go_at_call 58; refine hdt.mono ?_; rintro e w' ⟨rfl, rfl⟩)
        go_ret2
        exact ⟨rfl, rfl⟩
      · simp only at hrn
        have hdt : Calls Tryz.prog 58 #[.string (s.extract 1 s.size)] w fun e w' => e = .returned (.tuple #[.int .i64 (n : Nat), .bool true]) ∧ w' = w := hdt
        by_cases hn : n = 0
        · subst hn
          rw [if_pos rfl] at hrn
          subst hrn
          go_enter Tryz.func44, Tryz.ntmps44
          go_wp2_with (go_at_call 58; refine hdt.mono ?_; rintro e w' ⟨rfl, rfl⟩)
          go_ret2
          exact ⟨rfl, rfl⟩
        · rw [if_neg hn] at hrn
          subst hrn
          have b1 : ((n : Int) == 0) = false := by simpa using hn
          have hbig := hbd n rfl
          clear hbd
          · have w1 : IntKind.i64.wrap (-(n : Int)) = -(n : Int) := IntWalk.i64_in _ (by omega)
            go_enter Tryz.func44, Tryz.ntmps44
            go_wp2_with (go_at_call 58; refine hdt.mono ?_; rintro e w' ⟨rfl, rfl⟩)
            go_ret2
            exact ⟨rfl, rfl⟩
    · have b0 : ((((s[0]'g0).toNat : Nat) : Int) == 45) = false := by
        rw [← Bool.not_eq_true]
        intro h
        have h := beq_iff_eq.1 h
        apply h45
        apply UInt8.toNat_inj.1
        have e : (45 : UInt8).toNat = 45 := rfl
        omega
      have hk := key (by rw [hhd]; exact fun h => h45 h.2) _ rfl
      rw [hk] at hall
      clear hrn key hhd h45 hk
      go_enter Tryz.func44, Tryz.ntmps44
      go_wp2_with (go_at_call 58; refine hall.mono ?_; rintro e w' ⟨rfl, rfl⟩)
      go_ret2
      exact ⟨rfl, rfl⟩
  · have d1 : decide ((1 : Int) < (s.size : Int)) = false := decide_eq_false (by omega)
    have hk := key (fun h => h1 h.1) _ rfl
    rw [hk] at hall
    clear hrn key hk
    go_enter Tryz.func44, Tryz.ntmps44
    go_wp2_with (go_at_call 58; refine hall.mono ?_; rintro e w' ⟨rfl, rfl⟩)
    go_ret2
    exact ⟨rfl, rfl⟩
end Go.Proofs.YtjbagjmjbfiddaaGreatDoor
