/-
  What is not one answers so: codes, classes.
-/
import Derived.Test.YtoaohoeghlidaaaGreatDoorNe
namespace Go.Proofs.YtoaohoeghlidaaaGreatDoor
open Go.ChangeShapes Go.WideShapes Go.ChangeAt Go.RowKit

set_option maxHeartbeats 3200000 in
set_option maxRecDepth 100000 in
theorem ne_code : NeT 43 mkA shCode := by
  intro lim W vs us x y h1 h2 hl hne
  obtain ⟨a5, l5, c5, rfl, r5⟩ := code_is.1 h1
  obtain ⟨p5, q5, r5', rfl, s5⟩ := code_is.1 h2
  have hB := ((Below.refl lim W).alloc hl (.cells #[.int .i64 x.cls, .string x.params, .string x.locals, .bool x.ret, .int .i64 x.stack, .slice a5 l5 c5] 61)).alloc (by simp; omega) (.cells #[.int .i64 y.cls, .string y.params, .string y.locals, .bool y.ret, .int .i64 y.stack, .slice p5 q5 r5'] 61)
  have HBW := Lib.hid (((Below.refl W.heap.size W).alloc (Nat.le_refl _) (.cells #[.int .i64 x.cls, .string x.params, .string x.locals, .bool x.ret, .int .i64 x.stack, .slice a5 l5 c5] 61)).alloc (by simp) (.cells #[.int .i64 y.cls, .string y.params, .string y.locals, .bool y.ret, .int .i64 y.stack, .slice p5 q5 r5'] 61))
  have hc := fun (hn : x.ops ≠ y.ops) => ne_ops lim lim ((W.alloc (.cells #[.int .i64 x.cls, .string x.params, .string x.locals, .bool x.ret, .int .i64 x.stack, .slice a5 l5 c5] 61)).alloc (.cells #[.int .i64 y.cls, .string y.params, .string y.locals, .bool y.ret, .int .i64 y.stack, .slice p5 q5 r5'] 61)) _ _ x.ops y.ops ⟨a5, l5, c5, rfl, row_lim r5 hB⟩ ⟨p5, q5, r5', rfl, row_lim s5 hB⟩ hn
  have HC := Lib.hid hc
  clear h1 h2 r5 s5 hB hl hc
  show Calls Tryz.prog 43 #[.agg #[.int .i64 x.cls, .string x.params, .string x.locals, .bool x.ret, .int .i64 x.stack, .slice a5 l5 c5], .agg #[.int .i64 y.cls, .string y.params, .string y.locals, .bool y.ret, .int .i64 y.stack, .slice p5 q5 r5']] W _
  go_enter Tryz.func43, Tryz.ntmps43
  by_cases bcls : x.cls = y.cls
  · by_cases bparams : x.params = y.params
    · by_cases blocals : x.locals = y.locals
      · by_cases bret : x.ret = y.ret
        · by_cases bstack : x.stack = y.stack
          · have hops : x.ops ≠ y.ops := fun h => hne (by cases x; cases y; simp at *; exact ⟨bcls, bparams, blocals, bret, bstack, h⟩)
            have tcls : (x.cls == y.cls) = true := by rw [bcls]; simp
            have tparams : (x.params.toList == y.params.toList) = true := by rw [bparams]; simp
            have tlocals : (x.locals.toList == y.locals.toList) = true := by rw [blocals]; simp
            have tret : (x.ret == y.ret) = true := by rw [bret]; simp
            have tstack : (x.stack == y.stack) = true := by rw [bstack]; simp
            clear bcls bparams blocals bret bstack
            go_wp2_with (go_at_call 77; refine (HC.out hops).mono ?_)
            rintro e W1 ⟨rfl, m, hW1⟩
            have HB1 := Lib.hid (show Below W.heap.size W W1 by rw [hW1]; exact below_drew HBW.out m)
            clear hW1 HC
            go_wp2_with fail
            go_returns
            exact ⟨rfl, HB1.out⟩
          · have tcls : (x.cls == y.cls) = true := by rw [bcls]; simp
            have tparams : (x.params.toList == y.params.toList) = true := by rw [bparams]; simp
            have tlocals : (x.locals.toList == y.locals.toList) = true := by rw [blocals]; simp
            have tret : (x.ret == y.ret) = true := by rw [bret]; simp
            have tstack : (x.stack == y.stack) = false := by rw [← Bool.not_eq_true, beq_iff_eq]; exact bstack
            clear HC hne bcls bparams blocals bret bstack
            go_wp2_with fail
            go_returns
            exact ⟨rfl, HBW.out⟩
        · have tcls : (x.cls == y.cls) = true := by rw [bcls]; simp
          have tparams : (x.params.toList == y.params.toList) = true := by rw [bparams]; simp
          have tlocals : (x.locals.toList == y.locals.toList) = true := by rw [blocals]; simp
          have tret : (x.ret == y.ret) = false := by rw [← Bool.not_eq_true, beq_iff_eq]; exact bret
          clear HC hne bcls bparams blocals bret
          go_wp2_with fail
          go_returns
          exact ⟨rfl, HBW.out⟩
      · have tcls : (x.cls == y.cls) = true := by rw [bcls]; simp
        have tparams : (x.params.toList == y.params.toList) = true := by rw [bparams]; simp
        have tlocals : (x.locals.toList == y.locals.toList) = false := str_ne blocals
        clear HC hne bcls bparams blocals
        go_wp2_with fail
        go_returns
        exact ⟨rfl, HBW.out⟩
    · have tcls : (x.cls == y.cls) = true := by rw [bcls]; simp
      have tparams : (x.params.toList == y.params.toList) = false := str_ne bparams
      clear HC hne bcls bparams
      go_wp2_with fail
      go_returns
      exact ⟨rfl, HBW.out⟩
  · have tcls : (x.cls == y.cls) = false := by rw [← Bool.not_eq_true, beq_iff_eq]; exact bcls
    clear HC hne bcls
    go_wp2_with fail
    go_returns
    exact ⟨rfl, HBW.out⟩
end Go.Proofs.YtoaohoeghlidaaaGreatDoor
