/-
  ScriptPrints: the walk.
-/
import Derived.Test.YtjbagjmjbfiddaaGreatDoorRprint
import Derived.Test.YtjbagjmjbfiddaaGreatDoorWrong
namespace Go.Proofs.YtjbagjmjbfiddaaGreatDoor
open Go.ChangeShapes Go.WideShapes Go.ChangeAt Go.RowKit

theorem wrong_nil (w : World) : Calls Tryz.prog 14 #[.nilIface] w fun e w' => e = .returned (.tuple #[.int .i64 0, .int .i64 0]) ∧ w' = w := by
  go_enter Tryz.func14, Tryz.ntmps14
  go_wp2_with fail
  go_ret2
  exact ⟨rfl, rfl⟩
theorem code_nil (w : World) : Calls Tryz.prog 11 #[.nilIface] w fun e w' => e = .returned (.int .i64 0) ∧ Below w.heap.size w w' := by
  go_enter Tryz.func11, Tryz.ntmps11
  go_wp2_with (go_at_call 14; refine (wrong_nil _).mono ?_; rintro e w' ⟨rfl, rfl⟩)
  go_ret
  exact ⟨rfl, Below.refl _ _⟩
theorem code_err (c : Int) (g : Nat) (w : World) (hE : Env w) (hg : w.heap[g]? = some (.cells #[.int .i64 c, .int .i64 0, .nilIface] 72 (0, 0))) : Calls Tryz.prog 11 #[.iface 68 (.pointer (some ⟨g, 0, none⟩))] w fun e w' => e = .returned (.int .i64 c) ∧ Below w.heap.size w w' := by
  have hw := wrong_any c 0 g w hE hg
  clear hg hE
  go_enter Tryz.func11, Tryz.ntmps11
  go_wp2_with (go_at_call 14; refine hw.mono ?_)
  first | rintro e w1 rfl hb | rintro e w1 ⟨rfl, hb⟩
  have HB := Lib.hid hb
  clear hb hw
  go_wp2_with fail
  go_ret
  exact ⟨rfl, HB.out⟩

set_option maxHeartbeats 2000000 in
set_option maxRecDepth 100000 in
theorem prints_any (src : ByteArray) (A : Option Addr) (len cap : Nat) (S : List ScA) (hS : S.length = len) (hm : len ≤ maxLen) (w : World) (hE : Env w) (h : Scans w A S) :
    Calls Tryz.prog 3 #[.string src, .slice A len cap] w fun e w' => e = .returned (.bool true) ∧ Below w.heap.size w w' := by
  have h9 := hE.size
  have HE := Lib.hid hE
  have HS := Lib.hid h
  clear hE h
  by_cases hb : 40000 < src.size
  · have d0 : decide ((40000 : Int) < (src.size : Int)) = true := decide_eq_true (by omega)
    go_enter Tryz.func3, Tryz.ntmps3
    go_wp2_with (go_at_call 8; refine (awake_any w HE.out).mono ?_)
    first | rintro e W1 rfl hb1 | rintro e W1 ⟨rfl, hb1⟩
    have HB1 := Lib.hid hb1
    clear hb1
    go_wp2_with fail
    go_ret
    exact ⟨rfl, HB1.out⟩
  · have d0 : decide ((40000 : Int) < (src.size : Int)) = false := decide_eq_false (by omega)
    have hgr := great_any A len cap S hS hm w HS.out
    go_enter Tryz.func3, Tryz.ntmps3
    go_wp2_with (go_at_call 7; refine hgr.mono ?_)
    rintro e w' ⟨gb, rfl, hgb, rfl⟩
    clear hgr
    cases gb with
    | true =>
      clear hgb
      go_wp2_with (go_at_call 8; refine (awake_any _ HE.out).mono ?_)
      first | rintro e W1 rfl hb1 | rintro e W1 ⟨rfl, hb1⟩
      have HB1 := Lib.hid hb1
      clear hb1
      go_wp2_with fail
      go_ret
      exact ⟨rfl, HB1.out⟩
    | false =>
      obtain ⟨h40, h20⟩ := hgb rfl
      have hp := print_any src (by omega) A len cap S hS h40 h20 w' HE.out HS.out
      have H20 := Lib.hid h20
      obtain ⟨⟨tx, cd⟩, hP⟩ : ∃ P, printOf src S = P := ⟨_, rfl⟩
      rw [hP] at hp
      have HP := Lib.hid hP
      clear hgb h20 hP
      go_wp2_with (go_at_call 9; refine hp.mono ?_)
      rintro e W1 ⟨hpr, hb1⟩
      have HB1 := Lib.hid hb1
      have hs1 := hb1.size
      have hr := rprint_any src (by omega) A len cap S hS h40 H20.out W1 (HS.out.keep hb1)
      rw [HP.out] at hr
      clear hb1 hp
      obtain ⟨st, hst⟩ : ∃ st : ByteArray, (⟨tx.toArray⟩ : ByteArray) = st := ⟨_, rfl⟩
      unfold Printed at hpr
      simp only [hst] at hpr hr
      have hee : (st.toList == st.toList) = true := by simp
      have hcc : (cd == cd) = true := by simp
      clear hst
      rcases hpr with ⟨h0, rfl⟩ | ⟨h0, g, rfl, hg⟩
      · subst h0
        go_wp2_with (go_at_call 10; refine hr.mono ?_)
        first | rintro e W2 rfl hb2 | rintro e W2 ⟨rfl, hb2⟩
        have HB2 := Lib.hid (HB1.out.trans (hb2.mono hs1))
        have hs2 := HB2.out.size
        clear hb2 hr
        go_wp2_with (go_at_call 11; refine (code_nil W2).mono ?_)
        first | rintro e W3 rfl hb3 | rintro e W3 ⟨rfl, hb3⟩
        have HB3 := Lib.hid (HB2.out.trans (hb3.mono hs2))
        have hs3 := HB3.out.size
        clear hb3
        go_wp2_with (go_at_call 8; refine (awake_any W3 (HE.out.keep HB3.out h9)).mono ?_)
        first | rintro e W4 rfl hb4 | rintro e W4 ⟨rfl, hb4⟩
        have HB4 := Lib.hid (HB3.out.trans (hb4.mono hs3))
        clear hb4
        go_wp2_with fail
        go_ret
        exact ⟨rfl, HB4.out⟩
      · have HG := Lib.hid hg
        clear hg
        go_wp2_with (go_at_call 10; refine hr.mono ?_)
        first | rintro e W2 rfl hb2 | rintro e W2 ⟨rfl, hb2⟩
        have HB2 := Lib.hid (HB1.out.trans (hb2.mono hs1))
        have hs2 := HB2.out.size
        have HG2 := Lib.hid ((hb2.block g (heap_lt HG.out)).trans HG.out)
        clear hb2 hr
        go_wp2_with (go_at_call 11; refine (code_err cd g W2 (HE.out.keep HB2.out h9) HG2.out).mono ?_)
        first | rintro e W3 rfl hb3 | rintro e W3 ⟨rfl, hb3⟩
        have HB3 := Lib.hid (HB2.out.trans (hb3.mono hs2))
        have hs3 := HB3.out.size
        clear hb3
        go_wp2_with (go_at_call 8; refine (awake_any W3 (HE.out.keep HB3.out h9)).mono ?_)
        first | rintro e W4 rfl hb4 | rintro e W4 ⟨rfl, hb4⟩
        have HB4 := Lib.hid (HB3.out.trans (hb4.mono hs3))
        clear hb4
        go_wp2_with fail
        go_ret
        exact ⟨rfl, HB4.out⟩
end Go.Proofs.YtjbagjmjbfiddaaGreatDoor
