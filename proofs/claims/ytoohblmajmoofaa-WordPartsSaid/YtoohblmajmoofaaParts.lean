/-
  WordParts: for any two numbers, the quotient times the divisor and the rest is what was divided, the rest is lesser than the divisor and has the sign of what was divided; by 0 there is none; no condition.
-/
import Derived.Test.YtoohblmajmoofaaRows
import Derived.WalkKit
import Derived.ProofKit
import Derived.OpenShut
import Derived.Lib.Hide
import Derived.Test.YtoohblmajmoofaaRef
namespace Go.Proofs.Ytoohblmajmoofaa.wordParts
open Go.ChangeShapes Go.WideShapes Go.ChangeAt Go.RowKit
set_option linter.unusedVariables false      -- a walk need not use every 'w<i>' (that an integer argument fits its kind)

theorem own : ownKnob Try.prog.godebug = none := by kernel_rfl

theorem q_r (x y : Int) (hx : -32768 ≤ x ∧ x ≤ 32767) (hy : -32768 ≤ y ∧ y ≤ 32767) (h0 : ¬ y = 0) :
    doV 5 x y = x.tmod y ∧ (x.tmod y).natAbs < y.natAbs ∧ fit (wrap64 (wrap64 (doV 4 x y * y) + x.tmod y)) = x := by
  have hm : (x.tmod y).natAbs < y.natAbs := by
    rw [Int.natAbs_tmod]; exact Nat.mod_lt _ (by omega)
  have hf : doV 5 x y = x.tmod y := by
    have : doV 5 x y = fit (x.tmod y) := by simp [doV, dV, h0]
    rw [this]; unfold fit; omega
  refine ⟨hf, hm, ?_⟩
  have e4 : doV 4 x y = fit (x.tdiv y) := by simp [doV, dV, h0]
  have hd : x.tdiv y * y + x.tmod y = x := by rw [Int.mul_comm]; exact Int.mul_tdiv_add_tmod x y
  have e : fit (x.tdiv y) * y = x.tdiv y * y + (((fit (x.tdiv y) - x.tdiv y) / 65536) * y) * 65536 := by
    have h : fit (x.tdiv y) = x.tdiv y + ((fit (x.tdiv y) - x.tdiv y) / 65536) * 65536 := by unfold fit; omega
    conv => lhs; rw [h]
    rw [Int.add_mul, Int.mul_assoc, Int.mul_assoc, Int.mul_comm 65536 y]
  rw [e4, e]
  generalize ((fit (x.tdiv y) - x.tdiv y) / 65536) * y = k
  generalize x.tdiv y * y = p at hd
  generalize x.tmod y = r at hd
  unfold fit wrap64; omega

theorem sign_ (x y : Int) : (x.tmod y < 0 → x < 0) ∧ (0 < x.tmod y → ¬ x < 0) := by
  constructor
  · intro h
    rcases Int.lt_or_le x 0 with k | k
    · exact k
    · have := Int.tmod_nonneg y k; omega
  · intro h k
    have := Int.tmod_nonneg y (show 0 ≤ -x from by omega)
    rw [Int.neg_tmod] at this
    omega
theorem do_ex (op a b : Int) (w : World) : Calls Try.prog 9 #[.int .i64 op, .int .i64 a, .int .i64 b] w fun e w' => ∃ v t, e = .returned (.tuple #[.int .i64 v, .bool t]) ∧ Hid (v = doV op a b ∧ t = doB op b) ∧ w = w' :=
  (do_any op a b w).mono fun _ _ ⟨h, hw⟩ => ⟨_, _, h, Lib.hid ⟨rfl, rfl⟩, hw⟩
theorem fit_ex (n : Int) (w : World) : Calls Try.prog 11 #[.int .i64 n] w fun e w' => ∃ v, e = .returned (.int .i64 v) ∧ Hid (v = fit n) ∧ w = w' :=
  (fit_any n w).mono fun _ _ ⟨h, hw⟩ => ⟨_, h, Lib.hid rfl, hw⟩

set_option maxRecDepth 100000 in
set_option maxHeartbeats 2000000 in
theorem walk_0 (a0 a1 : Int) (h : fit a1 = 0) (w : World) :
    Calls Try.prog 6 #[.int .i64 a0, .int .i64 a1] w fun e w' => e = .returned (.bool true) ∧ Grown w w' := by
  have H := Lib.hid h; clear h
  go_enter Try.func6, Try.ntmps6
  go_wp2_with fail
  refine (fit_ex _ _).mono ?_; rintro e w' ⟨x, rfl, Hx, rfl⟩
  go_wp2_with fail
  refine (fit_ex _ _).mono ?_; rintro e w' ⟨y, rfl, Hy, rfl⟩
  obtain rfl := Hy.out.trans H.out
  go_wp2_with fail
  refine (do_ex _ _ _ _).mono ?_; rintro e w' ⟨q, t1, rfl, Hq, rfl⟩
  have hq : q = 0 ∧ t1 = false := by obtain ⟨h1, h2⟩ := Hq.out; exact ⟨h1.trans (by simp [doV, dV]), h2.trans (by simp [doB, dB])⟩
  obtain ⟨rfl, rfl⟩ := hq
  go_wp2_with fail
  refine (do_ex _ _ _ _).mono ?_; rintro e w' ⟨r, t2, rfl, Hr, rfl⟩
  have hr : r = 0 ∧ t2 = false := by obtain ⟨h1, h2⟩ := Hr.out; exact ⟨h1.trans (by simp [doV, dV]), h2.trans (by simp [doB, dB])⟩
  obtain ⟨rfl, rfl⟩ := hr
  go_wp2_with fail
  refine (awake_any _).mono ?_; rintro e w' ⟨rfl, rfl⟩
  go_wp2_with fail
  go_ret
  exact ⟨rfl, Grown.refl _⟩

set_option maxRecDepth 100000 in
set_option maxHeartbeats 2000000 in
theorem walk_1 (a0 a1 : Int) (h : ¬ fit a1 = 0) (w : World) :
    Calls Try.prog 6 #[.int .i64 a0, .int .i64 a1] w fun e w' => e = .returned (.bool true) ∧ Grown w w' := by
  have H := Lib.hid h; clear h
  go_enter Try.func6, Try.ntmps6
  go_wp2_with fail
  refine (fit_ex _ _).mono ?_; rintro e w' ⟨x, rfl, Hx, rfl⟩
  go_wp2_with fail
  refine (fit_ex _ _).mono ?_; rintro e w' ⟨y, rfl, Hy, rfl⟩
  rw [← Hy.out] at H
  have hx : -32768 ≤ x ∧ x ≤ 32767 := by rw [Hx.out]; exact fit_bd _
  have hy : -32768 ≤ y ∧ y ≤ 32767 := by rw [Hy.out]; exact fit_bd _
  go_wp2_with fail
  refine (do_ex _ _ _ _).mono ?_; rintro e w' ⟨q, t1, rfl, Hq, rfl⟩
  obtain rfl : t1 = true := by rw [Hq.out.2]; simp [doB, dB, H.out]
  go_wp2_with fail
  refine (do_ex _ _ _ _).mono ?_; rintro e w' ⟨r, t2, rfl, Hr, rfl⟩
  obtain rfl : t2 = true := by rw [Hr.out.2]; simp [doB, dB, H.out]
  have Hqr := Lib.hid (q_r x y hx hy H.out)
  have hr : r = x.tmod y := Hr.out.1.trans Hqr.out.1
  have HR := Lib.hid hr
  clear hr
  have e1 : (y == 0) = false := by simp [H.out]
  have hrb : -32768 ≤ r ∧ r ≤ 32767 := by rw [HR.out]; have := Hqr.out.2.1; omega
  have e2 : max r (-r) < max y (-y) := by rw [HR.out]; have := Hqr.out.2.1; omega
  have e2' := Lib.hid e2
  clear e2
  go_wp2_with fail
  refine (fit_ex _ _).mono ?_; rintro e w' ⟨z, rfl, Hz, rfl⟩
  obtain rfl : z = x := by rw [Hz.out, Hq.out.1, HR.out]; exact Hqr.out.2.2
  have hsg := sign_ z y
  rw [← HR.out] at hsg
  clear Hz
  rcases Int.lt_trichotomy r 0 with hr | hr | hr
  · have hz : z < 0 := hsg.1 hr
    have f1 : (r != 0) = true := by rw [bne_iff_ne]; omega
    have hab := e2'.out
    clear hsg e2'
    rcases Int.lt_trichotomy y 0 with hy0 | hy0 | hy0
    · have hb : y < r ∧ r < -y := by omega
      clear hab
      go_wp2_with fail
      refine (awake_any _).mono ?_; rintro e w' ⟨rfl, rfl⟩
      go_wp2_with fail
      go_ret
      exact ⟨rfl, Grown.refl _⟩
    · exact absurd hy0 H.out
    · have hb : -y < r ∧ r < y := by omega
      clear hab
      go_wp2_with fail
      refine (awake_any _).mono ?_; rintro e w' ⟨rfl, rfl⟩
      go_wp2_with fail
      go_ret
      exact ⟨rfl, Grown.refl _⟩
  · subst hr
    have hab := e2'.out
    clear hsg e2'
    rcases Int.lt_trichotomy y 0 with hy0 | hy0 | hy0
    · have hb : y < 0 ∧ 0 < -y := by omega
      clear hab
      go_wp2_with fail
      refine (awake_any _).mono ?_; rintro e w' ⟨rfl, rfl⟩
      go_wp2_with fail
      go_ret
      exact ⟨rfl, Grown.refl _⟩
    · exact absurd hy0 H.out
    · have hb : -y < 0 ∧ 0 < y := by omega
      clear hab
      go_wp2_with fail
      refine (awake_any _).mono ?_; rintro e w' ⟨rfl, rfl⟩
      go_wp2_with fail
      go_ret
      exact ⟨rfl, Grown.refl _⟩
  · have hz : ¬ z < 0 := hsg.2 hr
    have f1 : (r != 0) = true := by rw [bne_iff_ne]; omega
    have f2 : decide (z < 0) = false := by simpa using hz
    have hab := e2'.out
    clear hsg e2'
    rcases Int.lt_trichotomy y 0 with hy0 | hy0 | hy0
    · have hb : y < r ∧ r < -y := by omega
      clear hab
      go_wp2_with fail
      refine (awake_any _).mono ?_; rintro e w' ⟨rfl, rfl⟩
      go_wp2_with fail
      go_ret
      exact ⟨rfl, Grown.refl _⟩
    · exact absurd hy0 H.out
    · have hb : -y < r ∧ r < y := by omega
      clear hab
      go_wp2_with fail
      refine (awake_any _).mono ?_; rintro e w' ⟨rfl, rfl⟩
      go_wp2_with fail
      go_ret
      exact ⟨rfl, Grown.refl _⟩
theorem walk (a0 : Int) (a1 : Int) (w0 : (Lit.int .i64 a0).wf = true) (w1 : (Lit.int .i64 a1).wf = true) (w : World) :
    Calls Try.prog 6 #[.int .i64 a0, .int .i64 a1] w fun e w' => e = .returned (.bool true) ∧ Grown w w' := by
  by_cases h : fit a1 = 0
  · exact walk_0 a0 a1 h w
  · exact walk_1 a0 a1 h w

/-! ### THE ROW's STEP: WRITTEN OUT: LEAVE IT -/
set_option maxRecDepth 100000 in
theorem lifted (os : Os) (started : os.Started) (H : Type) (enc : TypeId × Value → H) :
    ReturnsInHanded {} Try.checked os 6 .any (Rows.wordPartsSpec.pre6 enc Try.prog Try.f6 Rows.wordPartsRow.domain false) (Rows.wordPartsSpec.post enc Try.prog Try.f6 false true false false) := by
  refine returnsInHanded_of_change (C := Try.checked) own started (by kernel_rfl) Try.func6
    (ChangeSpec.witness6 (enc := enc) (C := Try.checked) false ⟨#[], #[.int .i64 0, .int .i64 0], []⟩ 8 (by kernel_rfl) (by kernel_rfl) (by kernel_rfl) (by kernel_rfl)) ?_
  intro W base args ds gs before hval0 hW hcnd _
  have hval : ∀ (j : Nat) t v, Try.f6.params[j]? = some t → args[j]? = some v → Value.okWide Try.prog W .any base t v := hval0
  have hW' := hW
  obtain ⟨p, q, hA0, hV, rfl, hfz, hnd⟩ := hW
  have hA : DataW.TrodAll enc Try.prog W 0 (fun _ => true) true Try.f6.params.toList args.toList ds p := hA0
  rw [Try.params6] at hA hval
  obtain ⟨v0, vs0, d0, ds0, p0, q0, hargs, rfl, rfl, h0, r0⟩ := trodAll_cons hA
  obtain ⟨v1, vs1, d1, ds1, p1, q1, rfl, rfl, rfl, h1, r1⟩ := trodAll_cons r0
  obtain ⟨rfl, rfl, rfl⟩ := trodAll_nil r1
  obtain rfl : args = #[v0, v1] := by cases args; simp_all
  obtain ⟨rfl, rfl⟩ := trodVars_none hV
  obtain ⟨a0, rfl, rfl, rfl, w0⟩ := open_int Try.underlying3 (hval 0 3 v0 rfl rfl) h0
  obtain ⟨a1, rfl, rfl, rfl, w1⟩ := open_int Try.underlying3 (hval 1 3 v1 rfl rfl) h1
  clear hA0 hval0
  simp only [List.append_nil] at hW'
  refine (walk a0 a1 w0 w1 W).mono fun e W' ⟨he, hg⟩ => ?_
  subst he
  exact ⟨_, rfl, post_of_same (pa := []) (pv := []) hW' (fun _ _ _ => (trodAll_cons_mk (shut_bool Try.underlying4 _) trodAll_mk0)) (fun sp _ => (trodAll_cons_mk (shut_int Try.underlying3 w0) (trodAll_cons_mk (shut_int Try.underlying3 w1) trodAll_mk0))) (fun _ _ => rfl) rfl
    (hg.frame _) hg.2.1 (ok_one (by kernel_rfl) rfl (okWide_bool_mk Try.underlying4 _))⟩

theorem over : Rows.wordPartsRow.holds Try.pinned (OpenSpec.ofChange Rows.wordPartsSpec) :=
  OpenClaim.holds_of_wide 6 Try.f6 rfl rfl rfl rfl rfl rfl rfl ⟨rfl, rfl, rfl, rfl, rfl⟩ rfl rfl rfl rfl rfl (by kernel_rfl) Try.func6 (by kernel_rfl)
    (of_decide_eq_true (by kernel_rfl)) (by unfold Func.isWrapper; first | (rw [if_pos (by decide +kernel)]; kernel_rfl) | (rw [if_neg (by decide +kernel)]; exact ⟨rfl, rfl⟩))
    (fun os started H enc _ => lifted os started H enc)

/-- ████ THE STATEMENT ████ -/
theorem proved : Rows.WordPartsSaid :=
  over
#print axioms proved
end Go.Proofs.Ytoohblmajmoofaa.wordParts
