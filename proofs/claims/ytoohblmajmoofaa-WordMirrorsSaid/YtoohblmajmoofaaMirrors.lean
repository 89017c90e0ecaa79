/-
  WordMirrors: for any two numbers, a difference turned round is below 0 what it was above, minus once more is none, times 1 and by 1 change nothing, and what is lesser one way is greater the other way; no condition.
-/
import Derived.Test.YtoohblmajmoofaaRows
import Derived.WalkKit
import Derived.ProofKit
import Derived.OpenShut
import Derived.Test.YtoohblmajmoofaaRef
namespace Go.Proofs.Ytoohblmajmoofaa.wordMirrors
open Go.ChangeShapes Go.WideShapes Go.ChangeAt Go.RowKit
set_option linter.unusedVariables false      -- a walk need not use every 'w<i>' (that an integer argument fits its kind)

theorem own : ownKnob Try.prog.godebug = none := by kernel_rfl

theorem m1 (a b : Int) : (doV 2 a b == fit (-(doV 2 b a))) = true := by simp [doV]; unfold fit; omega
theorem m2 (a : Int) : (doV 3 a (-1) == fit (-a)) = true := by simp [doV]
theorem m3 (a : Int) (h : fit a = a) : (fit (-(doV 3 a (-1))) == a) = true := by simp [doV]; unfold fit at *; omega
theorem m4 (a : Int) (h : fit a = a) : (doV 3 a 1 == a) = true := by simp [doV, h]
theorem m5 (a : Int) (h : fit a = a) : (doV 4 a 1 == a) = true := by simp [doV, dV, h]
theorem m6 (a : Int) : (doV 5 a 1 == 0) = true := by simp [doV, dV, fit]
theorem m7 (a b : Int) : (doV 8 a b == doV 10 b a) = true := by simp [doV, hB]
theorem m8 (a b : Int) : (doV 9 a b == doV 11 b a) = true := by simp [doV, hB]
theorem m9 (a : Int) : (doV 2 a a == 0) = true := by simp [doV, fit]
theorem m10 (a : Int) : (b2i (b2i (b2i (a == 0) == 0) == 0) == b2i (a == 0)) = true := by cases (a == 0) <;> simp [b2i]
theorem wrapneg (a : Int) (h : -32768 ≤ a) (h' : a ≤ 32767) : wrap64 (-a) = -a := IntWalk.wrap64_in _ (by omega)

set_option maxRecDepth 100000 in
theorem walk_at (a b : Int) (h : fit a = a) (w : World) (Q : Ending → World → Prop) (hQ : Q (.returned (.bool true)) w) (w' : World) (hw : w = w') : Q (.returned (.bool true)) w' := by
  subst hw; exact hQ

set_option maxRecDepth 100000 in
set_option maxHeartbeats 800000 in
theorem walk (a0 a1 : Int) (w0 : (Lit.int .i64 a0).wf = true) (w1 : (Lit.int .i64 a1).wf = true) (w : World) :
    Calls Try.prog 8 #[.int .i64 a0, .int .i64 a1] w fun e w' => e = .returned (.bool true) ∧ Grown w w' := by
  clear w0 w1
  have ha := fit_fit a0
  have hb := fit_fit a1
  have t1 := m1 (fit a0) (fit a1)
  have t2 := m2 (fit a0)
  have t3 := m3 (fit a0) ha
  have t4 := m4 (fit a0) ha
  have t5 := m5 (fit a0) ha
  have t6 := m6 (fit a0)
  have t7 := m7 (fit a0) (fit a1)
  have t8 := m8 (fit a0) (fit a1)
  have t9 := m9 (fit a0)
  have t10 := m10 (fit a0)
  have b1 : ∀ k, doB 2 k = true := fun _ => rfl
  have b2 : doB 5 1 = true := rfl
  clear ha hb
  go_enter Try.func8, Try.ntmps8
  iterate 11
    go_wp2_with (first | (go_at_call 11; refine (fit_any _ _).mono ?_; rintro e w' ⟨rfl, rfl⟩))
    refine (do_any _ _ _ _).mono ?_; rintro e w' ⟨rfl, rfl⟩
  go_wp2_with fail
  refine (neg_any _ _).mono ?_; rintro e w' ⟨rfl, rfl⟩
  go_wp2_with fail
  refine (neg_any _ _).mono ?_; rintro e w' ⟨rfl, rfl⟩
  go_wp2_with fail
  refine (neg_any _ _).mono ?_; rintro e w' ⟨rfl, rfl⟩
  go_wp2_with fail
  refine (not_any _ _).mono ?_; rintro e w' ⟨rfl, rfl⟩
  go_wp2_with fail
  refine (not_any _ _).mono ?_; rintro e w' ⟨rfl, rfl⟩
  go_wp2_with fail
  refine (not_any _ _).mono ?_; rintro e w' ⟨rfl, rfl⟩
  go_wp2_with fail
  refine (not_any _ _).mono ?_; rintro e w' ⟨rfl, rfl⟩
  go_wp2_with fail
  refine (awake_any _).mono ?_; rintro e w' ⟨rfl, rfl⟩
  go_wp2_with fail
  go_ret
  exact ⟨rfl, Grown.refl _⟩

/-! ### THE ROW's STEP: WRITTEN OUT: LEAVE IT -/
set_option maxRecDepth 100000 in
theorem lifted (os : Os) (started : os.Started) (H : Type) (enc : TypeId × Value → H) :
    ReturnsInHanded {} Try.checked os 8 .any (Rows.wordMirrorsSpec.pre6 enc Try.prog Try.f8 Rows.wordMirrorsRow.domain false) (Rows.wordMirrorsSpec.post enc Try.prog Try.f8 false true false false) := by
  refine returnsInHanded_of_change (C := Try.checked) own started (by kernel_rfl) Try.func8
    (ChangeSpec.witness6 (enc := enc) (C := Try.checked) false ⟨#[], #[.int .i64 0, .int .i64 0], []⟩ 8 (by kernel_rfl) (by kernel_rfl) (by kernel_rfl) (by kernel_rfl)) ?_
  intro W base args ds gs before hval0 hW hcnd _
  have hval : ∀ (j : Nat) t v, Try.f8.params[j]? = some t → args[j]? = some v → Value.okWide Try.prog W .any base t v := hval0
  have hW' := hW
  obtain ⟨p, q, hA0, hV, rfl, hfz, hnd⟩ := hW
  have hA : DataW.TrodAll enc Try.prog W 0 (fun _ => true) true Try.f8.params.toList args.toList ds p := hA0
  rw [Try.params8] at hA hval
  obtain ⟨v0, vs0, d0, ds0, p0, q0, hargs, rfl, rfl, h0, r0⟩ := trodAll_cons hA
  obtain ⟨v1, vs1, d1, ds1, p1, q1, rfl, rfl, rfl, h1, r1⟩ := trodAll_cons r0
  obtain ⟨rfl, rfl, rfl⟩ := trodAll_nil r1
  obtain rfl : args = #[v0, v1] := by cases args; simp_all
  obtain ⟨rfl, rfl⟩ := trodVars_none hV
  obtain ⟨a0, rfl, rfl, rfl, w0⟩ := open_int Try.underlying3 (hval 0 3 v0 rfl rfl) h0
  obtain ⟨a1, rfl, rfl, rfl, w1⟩ := open_int Try.underlying3 (hval 1 3 v1 rfl rfl) h1
  clear hA0 hval0
  simp only [List.append_nil] at hW'
  refine (walk a0 a1 w0 w1 W).mono fun e W' ⟨he, hg⟩ => ?_
  subst he
  exact ⟨_, rfl, post_of_same (pa := []) (pv := []) hW' (fun _ _ _ => (trodAll_cons_mk (shut_bool Try.underlying4 _) trodAll_mk0)) (fun sp _ => (trodAll_cons_mk (shut_int Try.underlying3 w0) (trodAll_cons_mk (shut_int Try.underlying3 w1) trodAll_mk0))) (fun _ _ => rfl) rfl
    (hg.frame _) hg.2.1 (ok_one (by kernel_rfl) rfl (okWide_bool_mk Try.underlying4 _))⟩

theorem over : Rows.wordMirrorsRow.holds Try.pinned (OpenSpec.ofChange Rows.wordMirrorsSpec) :=
  OpenClaim.holds_of_wide 8 Try.f8 rfl rfl rfl rfl rfl rfl rfl ⟨rfl, rfl, rfl, rfl, rfl⟩ rfl rfl rfl rfl rfl (by kernel_rfl) Try.func8 (by kernel_rfl)
    (of_decide_eq_true (by kernel_rfl)) (by unfold Func.isWrapper; first | (rw [if_pos (by decide +kernel)]; kernel_rfl) | (rw [if_neg (by decide +kernel)]; exact ⟨rfl, rfl⟩))
    (fun os started H enc _ => lifted os started H enc)

/-- ████ THE STATEMENT ████ -/
theorem proved : Rows.WordMirrorsSaid :=
  over
#print axioms proved
end Go.Proofs.Ytoohblmajmoofaa.wordMirrors
