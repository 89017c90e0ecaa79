/-
  ScriptHex: the walk.
-/
import Derived.Test.YtllojlcmcdmbhaaGreatDoorWrong
import Derived.Test.YtllojlcmcdmbhaaGreatDoorFacts
namespace Go.Proofs.YtllojlcmcdmbhaaGreatDoor
open Go.ChangeShapes Go.WideShapes Go.ChangeAt Go.RowKit

set_option maxHeartbeats 1000000 in
set_option maxRecDepth 100000 in
theorem law_any (b s : ByteArray) (w : World) (hE : Env w) : Calls Tryz.prog 3 #[.string b, .string s] w fun e w' => e = .returned (.bool true) ∧ Below w.heap.size w w' := by
  have h9 := hE.size
  have HE := Lib.hid hE
  clear hE
  by_cases hb : 500 < b.size
  · have d0 : decide ((500 : Int) < (b.size : Int)) = true := decide_eq_true (by omega)
    go_enter Tryz.func3, Tryz.ntmps3
    go_wp2_with (go_at_call 4; refine (awake_any w HE.out).mono ?_)
    rintro e W1 ⟨rfl, hb1⟩
    have HB1 := Lib.hid hb1
    clear hb1
    go_wp2_with fail
    go_ret
    exact ⟨rfl, HB1.out⟩
  · have d0 : decide ((500 : Int) < (b.size : Int)) = false := decide_eq_false (by omega)
    by_cases hs : 500 < s.size
    · have d1 : decide ((500 : Int) < (s.size : Int)) = true := decide_eq_true (by omega)
      go_enter Tryz.func3, Tryz.ntmps3
      go_wp2_with (go_at_call 4; refine (awake_any w HE.out).mono ?_)
      rintro e W1 ⟨rfl, hb1⟩
      have HB1 := Lib.hid hb1
      clear hb1
      go_wp2_with fail
      go_ret
      exact ⟨rfl, HB1.out⟩
    · have d1 : decide ((500 : Int) < (s.size : Int)) = false := decide_eq_false (by omega)
      have hsz : (hexOf b).size ≤ 1000000 := by
        unfold hexOf
        split
        · decide
        · show (hexes b b.size).toArray.size ≤ _
          simp [hexes_len]; omega
      have hr := readOf_hexOf b
      obtain ⟨H, hH⟩ : ∃ H, hexOf b = H := ⟨_, rfl⟩
      obtain ⟨⟨S1, S2⟩, hS⟩ : ∃ S, readOf s = S := ⟨_, rfl⟩
      rw [hH] at hr hsz
      have c1 : (H.toList == H.toList) = true := by simp
      have c2 : (b.toList == b.toList) = true := by simp
      have c3 : (S1.toList == S1.toList) = true := by simp
      have c4 : (S2 == S2) = true := by simp
      go_enter Tryz.func3, Tryz.ntmps3
      go_wp2_with (go_at_call 5; refine (phex_any b (by omega) w.heap.size w (Nat.le_refl _)).mono ?_)
      rintro e W1 ⟨rfl, hb1⟩
      rw [hH]
      have HB1 := Lib.hid hb1
      have hs1 := hb1.size
      clear hb1
      go_wp2_with (go_at_call 6; refine (pbytes_any H hsz w.heap.size W1 hs1).mono ?_)
      rintro e W2 ⟨rfl, hb2⟩
      rw [hr]
      have HB2 := Lib.hid (HB1.out.trans hb2)
      have hs2 := HB2.out.size
      clear hb2
      go_wp2_with (go_at_call 6; refine (pbytes_any s (by omega) w.heap.size W2 hs2).mono ?_)
      rintro e W3 ⟨rfl, hb3⟩
      rw [hS]
      have HB3 := Lib.hid (HB2.out.trans hb3)
      have hs3 := HB3.out.size
      clear hb3
      go_wp2_with (go_at_call 7; refine (rbytes_any s (by omega) w.heap.size W3 hs3).mono ?_)
      rintro e W4 ⟨rfl, hb4⟩
      rw [hS]
      have HB4 := Lib.hid (HB3.out.trans hb4)
      have hs4 := HB4.out.size
      clear hb4
      go_wp2_with (go_at_call 8; refine (rhex_any b (by omega) w.heap.size W4 hs4).mono ?_)
      rintro e W5 ⟨rfl, hb5⟩
      rw [hH]
      have HB5 := Lib.hid (HB4.out.trans hb5)
      have hs5 := HB5.out.size
      clear hb5
      go_wp2_with (go_at_call 4; refine (awake_any W5 (HE.out.keep HB5.out h9)).mono ?_)
      rintro e W6 ⟨rfl, hb6⟩
      have HB6 := Lib.hid (HB5.out.trans (hb6.mono hs5))
      clear hb6
      go_wp2_with fail
      go_ret
      exact ⟨rfl, HB6.out⟩
end Go.Proofs.YtllojlcmcdmbhaaGreatDoor
