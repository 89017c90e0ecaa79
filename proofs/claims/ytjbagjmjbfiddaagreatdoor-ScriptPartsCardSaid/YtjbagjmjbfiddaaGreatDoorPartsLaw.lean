/-
  ScriptParts: the walk.
-/
import Derived.Test.YtjbagjmjbfiddaaGreatDoorTexts
import Derived.Test.YtjbagjmjbfiddaaGreatDoorWrong
namespace Go.Proofs.YtjbagjmjbfiddaaGreatDoor
open Go.ChangeShapes Go.WideShapes Go.ChangeAt Go.RowKit Go.Sort

theorem badOf_app {s t : ByteArray} {n : Nat} (h : badOf s = some n) : badOf (s ++ ⟨#[10]⟩ ++ t) = some n := by
  have e : (s ++ ⟨#[10]⟩ ++ t : ByteArray).data.toList = s.data.toList ++ 10 :: t.data.toList := by simp
  unfold badOf
  rw [e]
  exact bad_app t.data.toList _ _ _ _ h _ (Nat.le_refl _)
theorem badOf_pos {s : ByteArray} {n : Nat} (h : badOf s = some n) : 0 < s.size := by
  rcases Nat.eq_zero_or_pos s.size with h0 | h0
  · have : s.data.toList = [] := List.length_eq_zero_iff.mp h0
    unfold badOf at h
    rw [this] at h
    cases h
  · exact h0

set_option maxHeartbeats 2000000 in
set_option maxRecDepth 100000 in
theorem parts_any (s t : ByteArray) (w : World) (hE : Env2 w) : Calls Tryz.prog 6 #[.string s, .string t] w fun e w' => e = .returned (.bool true) ∧ Below w.heap.size w w' := by
  have h9 := hE.size
  have HE := Lib.hid hE
  clear hE
  by_cases hb : 10000 < s.size
  · have d0 : decide ((10000 : Int) < (s.size : Int)) = true := decide_eq_true (by omega)
    go_enter Tryz.func6, Tryz.ntmps6
    go_wp2_with (go_at_call 8; refine (awake_any w HE.out.toEnv).mono ?_)
    rintro e W1 ⟨rfl, hb1⟩
    have HB1 := Lib.hid hb1
    clear hb1
    go_wp2_with fail
    go_ret
    exact ⟨rfl, HB1.out⟩
  · have d0 : decide ((10000 : Int) < (s.size : Int)) = false := decide_eq_false (by omega)
    by_cases hs : 10000 < t.size
    · have d1 : decide ((10000 : Int) < (t.size : Int)) = true := decide_eq_true (by omega)
      go_enter Tryz.func6, Tryz.ntmps6
      go_wp2_with (go_at_call 8; refine (awake_any w HE.out.toEnv).mono ?_)
      rintro e W1 ⟨rfl, hb1⟩
      have HB1 := Lib.hid hb1
      clear hb1
      go_wp2_with fail
      go_ret
      exact ⟨rfl, HB1.out⟩
    · have d1 : decide ((10000 : Int) < (t.size : Int)) = false := decide_eq_false (by omega)
      go_enter Tryz.func6, Tryz.ntmps6
      go_wp2_with (go_at_call 12; refine (parse_any s (by omega) w HE.out).mono ?_)
      rintro e W1 ⟨hres, hb1⟩
      have HB1 := Lib.hid hb1
      have hs1 := hb1.size
      clear hb1
      have hsz : (s ++ ⟨#[10]⟩ ++ t : ByteArray).size ≤ 65536 := by
        have : (s ++ ⟨#[10]⟩ ++ t : ByteArray).size = s.size + 1 + t.size := by rw [ByteArray.size_append, ByteArray.size_append]; rfl
        omega
      rcases hres with ⟨n, g, hbad, rfl, hg⟩ | ⟨hbad, str, ao, len, cap, rfl⟩
      · have hpos := badOf_pos hbad
        have hbad2 := badOf_app (t := t) hbad
        have hne := list_ne (s := s) (by omega)
        have hlt := heap_lt hg
        obtain ⟨k, hk⟩ : ∃ k, s.size = k + 1 := ⟨s.size - 1, by omega⟩
        have kb : k < s.size := by omega
        have i0 : IntKind.i64.wrap ((s.size : Int) - 1) = (k : Int) := (IntWalk.i64_in _ (by omega)).trans (by omega)
        have i1 : (k : Int) < (s.size : Int) := by omega
        have i2 : (0 : Int) ≤ (k : Int) := by omega
        have i3 : ((k : Int)).toNat = k := by omega
        obtain ⟨c, hc⟩ : ∃ c : Int, ((s[k]'kb).toNat : Int) = c := ⟨_, rfl⟩
        have HG := Lib.hid hg
        have HBAD2 := Lib.hid hbad2
        have HSZ := Lib.hid hsz
        clear hg hk hbad2 hsz hbad
        go_wp2_with fail
        generalize (s ++ ⟨#[10]⟩ ++ t) = u at *
        refine (parse_any u HSZ.out W1 (HE.out.keep HB1.out h9)).mono ?_
        rintro e W2 ⟨hres2, hb2⟩
        rcases hres2 with ⟨n', g2, hbad3, rfl, hg2⟩ | ⟨hbad3, _⟩
        · obtain rfl : n = n' := Option.some.inj (HBAD2.out.symm.trans hbad3)
          have HG2 := Lib.hid ((hb2.block g hlt).trans HG.out)
          have HX2 := Lib.hid hg2
          have HB2 := Lib.hid (HB1.out.trans (hb2.mono hs1))
          have hs2 := HB2.out.size
          clear hb2 hg2 hbad3
          go_wp2_with (go_at_call 14; refine (wrong_any 23 (n : Int) g W2 (HE.out.toEnv.keep HB2.out h9) HG2.out).mono ?_)
          rintro e W3 ⟨rfl, hb3⟩
          have HX3 := Lib.hid ((hb3.block g2 (heap_lt HX2.out)).trans HX2.out)
          have HB3 := Lib.hid (HB2.out.trans (hb3.mono hs2))
          have hs3 := HB3.out.size
          clear hb3
          go_wp2_with (go_at_call 14; refine (wrong_any 23 (n : Int) g2 W3 (HE.out.toEnv.keep HB3.out h9) HX3.out).mono ?_)
          rintro e W4 ⟨rfl, hb4⟩
          have HB4 := Lib.hid (HB3.out.trans (hb4.mono hs3))
          have hs4 := HB4.out.size
          clear hb4
          by_cases hc10 : c = 10
          · have e1 : (c == 10) = true := by rw [hc10]; rfl
            go_wp2_with (go_at_call 8; refine (awake_any W4 (HE.out.toEnv.keep HB4.out h9)).mono ?_)
            rintro e W5 ⟨rfl, hb5⟩
            have HB5 := Lib.hid (HB4.out.trans (hb5.mono hs4))
            clear hb5
            go_wp2_with fail
            go_ret
            exact ⟨rfl, HB5.out⟩
          · have e1 : (c == 10) = false := by simpa using hc10
            go_wp2_with (go_at_call 8; refine (awake_any W4 (HE.out.toEnv.keep HB4.out h9)).mono ?_)
            rintro e W5 ⟨rfl, hb5⟩
            have HB5 := Lib.hid (HB4.out.trans (hb5.mono hs4))
            clear hb5
            go_wp2_with fail
            go_ret
            exact ⟨rfl, HB5.out⟩
        · rw [HBAD2.out] at hbad3; cases hbad3
      · have HSZ := Lib.hid hsz
        clear hsz
        go_wp2_with fail
        generalize (s ++ ⟨#[10]⟩ ++ t) = u at *
        refine (parse_any u HSZ.out W1 (HE.out.keep HB1.out h9)).mono ?_
        rintro e W2 ⟨hres2, hb2⟩
        have HB2 := Lib.hid (HB1.out.trans (hb2.mono hs1))
        have hs2 := HB2.out.size
        clear hb2
        rcases hres2 with ⟨n', g2, hbad3, rfl, hg2⟩ | ⟨hbad3, str2, ao2, len2, cap2, rfl⟩
        · clear hg2
          go_wp2_with (go_at_call 8; refine (awake_any W2 (HE.out.toEnv.keep HB2.out h9)).mono ?_)
          rintro e W3 ⟨rfl, hb3⟩
          have HB3 := Lib.hid (HB2.out.trans (hb3.mono hs2))
          clear hb3
          go_wp2_with fail
          go_ret
          exact ⟨rfl, HB3.out⟩
        · go_wp2_with (go_at_call 8; refine (awake_any W2 (HE.out.toEnv.keep HB2.out h9)).mono ?_)
          rintro e W3 ⟨rfl, hb3⟩
          have HB3 := Lib.hid (HB2.out.trans (hb3.mono hs2))
          clear hb3
          go_wp2_with fail
          go_ret
          exact ⟨rfl, HB3.out⟩
end Go.Proofs.YtjbagjmjbfiddaaGreatDoor
