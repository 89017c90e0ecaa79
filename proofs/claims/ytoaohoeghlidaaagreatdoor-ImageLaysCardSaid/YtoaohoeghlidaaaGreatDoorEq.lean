/-
  What is one answers so: lists, parts.
-/
import Derived.Test.YtoaohoeghlidaaaGreatDoorReader
import Derived.BigQuiet
import Derived.Deep.QuietTactic
namespace Go.Proofs.YtoaohoeghlidaaaGreatDoor
open Go.ChangeShapes Go.WideShapes Go.ChangeAt Go.RowKit

/-- two that are one: told so; what is kept stays -/
def EqQ (f : Nat) (mk : List Value → Value) {T : Type} (sh : Sh T) : Prop :=
  ∀ (lim : Nat) (W : World) (vs us : List Value) (x : T), sh.Is (fun k => k < lim) W vs x → sh.Is (fun k => k < lim) W us x →
    Calls Tryz.prog f #[mk vs, mk us] W fun e W' => e = .returned (.bool true) ∧ ∃ n, W' = W.drewN n
def EqT (f : Nat) (mk : List Value → Value) {T : Type} (sh : Sh T) : Prop :=
  ∀ (lim : Nat) (W : World) (vs us : List Value) (x : T), sh.Is (fun k => k < lim) W vs x → sh.Is (fun k => k < lim) W us x → lim ≤ W.heap.size →
    Calls Tryz.prog f #[mk vs, mk us] W fun e W' => e = .returned (.bool true) ∧ Below W.heap.size W W'
theorem EqQ.quiet {f : Nat} {mk : List Value → Value} {T : Type} {sh : Sh T} (h : EqQ f mk sh) {lim : Nat} {W : World} {vs us : List Value} {x : T} (h1 : sh.Is (fun k => k < lim) W vs x) (h2 : sh.Is (fun k => k < lim) W us x) (m : Nat) :
    Calls Tryz.prog f #[mk vs, mk us] (W.drewN m) fun e W' => e = .returned (.bool true) ∧ ∃ n, W' = W.drewN n :=
  Calls.quiet_of (h lim (W.drewN m) vs us x (sh.keep (W := W) (W' := W.drewN m) (fun _ _ => rfl) h1) (sh.keep (W := W) (W' := W.drewN m) (fun _ _ => rfl) h2))

set_option maxHeartbeats 1600000 in
set_option maxRecDepth 100000 in
theorem eq_ints : EqQ 73 mk1 (shSlice shInt) := by
  intro lim W vs us xs h1 h2
  obtain ⟨a, l, c, rfl, hr⟩ := slice_is.1 h1
  obtain ⟨a', l', c', rfl, hr'⟩ := slice_is.1 h2
  obtain rfl : l = l' := hr.1.symm.trans hr'.1
  have HR := Lib.hid hr
  have HR' := Lib.hid hr'
  have hml : l ≤ 9223372036854775807 := by have := hr.le; unfold maxLen at this; omega
  have hll : ((l : Int) != (l : Int)) = false := by simp
  clear h1 h2 hr hr'
  show Calls Tryz.prog 73 #[.slice a l c, .slice a' l c'] W _
  go_enter Tryz.func73, Tryz.ntmps73
  go_wp2_with fail
  go_loopw [5] (fun i wr => ∃ k m : Nat, k ≤ l ∧ i = .int .i64 k ∧ wr = W.drewN m) (fun i _ => l - (intOf i).toNat)
  case atStart => exact ⟨0, 0, Nat.zero_le _, rfl, rfl⟩
  case round =>
    obtain ⟨k, m, hk, rfl, hwr⟩ := hrel
    have HW := Lib.hid hwr
    by_cases hlt : k < l
    · have hrA : Row shInt (fun k => k < lim) wr a l xs := by rw [hwr]; exact HR.out.keep (fun _ _ => rfl)
      have hrB : Row shInt (fun k => k < lim) wr a' l xs := by rw [hwr]; exact HR'.out.keep (fun _ _ => rfl)
      obtain ⟨ba, oa, x, vs, rfl, _, hx, hba, iA⟩ := hrA.item hlt
      obtain ⟨bb, ob, x', us, rfl, _, hx', hbb, iB⟩ := hrB.item hlt
      obtain rfl := Option.some.inj (hx.symm.trans hx')
      have i0 : (k : Int) < (l : Int) := by omega
      have i1 : (0 : Int) ≤ (k : Int) := by omega
      obtain rfl := int_is.1 iA
      obtain rfl := int_is.1 iB
      have e0 : wr.cell? ⟨ba, oa + k, none⟩ = some (.int .i64 x) := by have := hba 0 _ rfl; rw [show oa + k * shInt.n + 0 = oa + k by show oa + k * 1 + 0 = _; omega] at this; exact this
      have d0 : wr.cell? ⟨bb, ob + k, none⟩ = some (.int .i64 x) := by have := hbb 0 _ rfl; rw [show ob + k * shInt.n + 0 = ob + k by show ob + k * 1 + 0 = _; omega] at this; exact this
      clear hba hbb hrA hrB hwr hx hx' iA iB
      go_wp2_with fail
      go_quiet (fail)
      go_wp2_with fail
      refine ⟨⟨k + 1, m + nq, ?_, ?_, ?_⟩, ?_⟩
      · omega
      · go_num
      · rw [HW.out, World.drewN_drewN]
      · simp [intOf]; omega
    · obtain rfl : k = l := by omega
      clear hwr
      go_wp2_with fail
      go_returns
      exact ⟨rfl, m, HW.out⟩

set_option maxHeartbeats 1600000 in
set_option maxRecDepth 100000 in
theorem eq_texts : EqQ 75 mk1 (shSlice shStr) := by
  intro lim W vs us xs h1 h2
  obtain ⟨a, l, c, rfl, hr⟩ := slice_is.1 h1
  obtain ⟨a', l', c', rfl, hr'⟩ := slice_is.1 h2
  obtain rfl : l = l' := hr.1.symm.trans hr'.1
  have HR := Lib.hid hr
  have HR' := Lib.hid hr'
  have hml : l ≤ 9223372036854775807 := by have := hr.le; unfold maxLen at this; omega
  have hll : ((l : Int) != (l : Int)) = false := by simp
  clear h1 h2 hr hr'
  show Calls Tryz.prog 75 #[.slice a l c, .slice a' l c'] W _
  go_enter Tryz.func75, Tryz.ntmps75
  go_wp2_with fail
  go_loopw [5] (fun i wr => ∃ k m : Nat, k ≤ l ∧ i = .int .i64 k ∧ wr = W.drewN m) (fun i _ => l - (intOf i).toNat)
  case atStart => exact ⟨0, 0, Nat.zero_le _, rfl, rfl⟩
  case round =>
    obtain ⟨k, m, hk, rfl, hwr⟩ := hrel
    have HW := Lib.hid hwr
    by_cases hlt : k < l
    · have hrA : Row shStr (fun k => k < lim) wr a l xs := by rw [hwr]; exact HR.out.keep (fun _ _ => rfl)
      have hrB : Row shStr (fun k => k < lim) wr a' l xs := by rw [hwr]; exact HR'.out.keep (fun _ _ => rfl)
      obtain ⟨ba, oa, x, vs, rfl, _, hx, hba, iA⟩ := hrA.item hlt
      obtain ⟨bb, ob, x', us, rfl, _, hx', hbb, iB⟩ := hrB.item hlt
      obtain rfl := Option.some.inj (hx.symm.trans hx')
      have i0 : (k : Int) < (l : Int) := by omega
      have i1 : (0 : Int) ≤ (k : Int) := by omega
      obtain rfl := str_is.1 iA
      obtain rfl := str_is.1 iB
      have e0 : wr.cell? ⟨ba, oa + k, none⟩ = some (.string x) := by have := hba 0 _ rfl; rw [show oa + k * shStr.n + 0 = oa + k by show oa + k * 1 + 0 = _; omega] at this; exact this
      have d0 : wr.cell? ⟨bb, ob + k, none⟩ = some (.string x) := by have := hbb 0 _ rfl; rw [show ob + k * shStr.n + 0 = ob + k by show ob + k * 1 + 0 = _; omega] at this; exact this
      clear hba hbb hrA hrB hwr hx hx' iA iB
      go_wp2_with fail
      go_quiet (fail)
      go_wp2_with fail
      refine ⟨⟨k + 1, m + nq, ?_, ?_, ?_⟩, ?_⟩
      · omega
      · go_num
      · rw [HW.out, World.drewN_drewN]
      · simp [intOf]; omega
    · obtain rfl : k = l := by omega
      clear hwr
      go_wp2_with fail
      go_returns
      exact ⟨rfl, m, HW.out⟩

set_option maxHeartbeats 1600000 in
set_option maxRecDepth 100000 in
theorem eq_ops : EqQ 77 mk1 (shSlice shOp) := by
  intro lim W vs us xs h1 h2
  obtain ⟨a, l, c, rfl, hr⟩ := slice_is.1 h1
  obtain ⟨a', l', c', rfl, hr'⟩ := slice_is.1 h2
  obtain rfl : l = l' := hr.1.symm.trans hr'.1
  have HR := Lib.hid hr
  have HR' := Lib.hid hr'
  have hml : l ≤ 9223372036854775807 := by have := hr.le; unfold maxLen at this; omega
  have hll : ((l : Int) != (l : Int)) = false := by simp
  clear h1 h2 hr hr'
  show Calls Tryz.prog 77 #[.slice a l c, .slice a' l c'] W _
  go_enter Tryz.func77, Tryz.ntmps77
  go_wp2_with fail
  go_loopw [5] (fun i wr => ∃ k m : Nat, k ≤ l ∧ i = .int .i64 k ∧ wr = W.drewN m) (fun i _ => l - (intOf i).toNat)
  case atStart => exact ⟨0, 0, Nat.zero_le _, rfl, rfl⟩
  case round =>
    obtain ⟨k, m, hk, rfl, hwr⟩ := hrel
    have HW := Lib.hid hwr
    by_cases hlt : k < l
    · have hrA : Row shOp (fun k => k < lim) wr a l xs := by rw [hwr]; exact HR.out.keep (fun _ _ => rfl)
      have hrB : Row shOp (fun k => k < lim) wr a' l xs := by rw [hwr]; exact HR'.out.keep (fun _ _ => rfl)
      obtain ⟨ba, oa, x, vs, rfl, _, hx, hba, iA⟩ := hrA.item hlt
      obtain ⟨bb, ob, x', us, rfl, _, hx', hbb, iB⟩ := hrB.item hlt
      obtain rfl := Option.some.inj (hx.symm.trans hx')
      have i0 : (k : Int) < (l : Int) := by omega
      have i1 : (0 : Int) ≤ (k : Int) := by omega
      obtain rfl := op_is.1 iA
      obtain rfl := op_is.1 iB
      have e0 : wr.cell? ⟨ba, oa + k * 3, none⟩ = some (.int .i64 x.k) := hba 0 _ rfl
      have e1 : wr.cell? ⟨ba, oa + k * 3 + 1, none⟩ = some (.int .i64 x.a) := hba 1 _ rfl
      have e2 : wr.cell? ⟨ba, oa + k * 3 + 2, none⟩ = some (.int .i64 x.b) := hba 2 _ rfl
      have d0 : wr.cell? ⟨bb, ob + k * 3, none⟩ = some (.int .i64 x.k) := hbb 0 _ rfl
      have d1 : wr.cell? ⟨bb, ob + k * 3 + 1, none⟩ = some (.int .i64 x.a) := hbb 1 _ rfl
      have d2 : wr.cell? ⟨bb, ob + k * 3 + 2, none⟩ = some (.int .i64 x.b) := hbb 2 _ rfl
      clear hba hbb hrA hrB hwr hx hx' iA iB
      go_wp2_with fail
      go_quiet (fail)
      go_wp2_with fail
      refine ⟨⟨k + 1, m + nq, ?_, ?_, ?_⟩, ?_⟩
      · omega
      · go_num
      · rw [HW.out, World.drewN_drewN]
      · simp [intOf]; omega
    · obtain rfl : k = l := by omega
      clear hwr
      go_wp2_with fail
      go_returns
      exact ⟨rfl, m, HW.out⟩

set_option maxHeartbeats 1600000 in
set_option maxRecDepth 100000 in
theorem eq_links : EqQ 74 mk1 (shSlice shLink) := by
  intro lim W vs us xs h1 h2
  obtain ⟨a, l, c, rfl, hr⟩ := slice_is.1 h1
  obtain ⟨a', l', c', rfl, hr'⟩ := slice_is.1 h2
  obtain rfl : l = l' := hr.1.symm.trans hr'.1
  have HR := Lib.hid hr
  have HR' := Lib.hid hr'
  have hml : l ≤ 9223372036854775807 := by have := hr.le; unfold maxLen at this; omega
  have hll : ((l : Int) != (l : Int)) = false := by simp
  clear h1 h2 hr hr'
  show Calls Tryz.prog 74 #[.slice a l c, .slice a' l c'] W _
  go_enter Tryz.func74, Tryz.ntmps74
  go_wp2_with fail
  go_loopw [5] (fun i wr => ∃ k m : Nat, k ≤ l ∧ i = .int .i64 k ∧ wr = W.drewN m) (fun i _ => l - (intOf i).toNat)
  case atStart => exact ⟨0, 0, Nat.zero_le _, rfl, rfl⟩
  case round =>
    obtain ⟨k, m, hk, rfl, hwr⟩ := hrel
    have HW := Lib.hid hwr
    by_cases hlt : k < l
    · have hrA : Row shLink (fun k => k < lim) wr a l xs := by rw [hwr]; exact HR.out.keep (fun _ _ => rfl)
      have hrB : Row shLink (fun k => k < lim) wr a' l xs := by rw [hwr]; exact HR'.out.keep (fun _ _ => rfl)
      obtain ⟨ba, oa, x, vs, rfl, _, hx, hba, iA⟩ := hrA.item hlt
      obtain ⟨bb, ob, x', us, rfl, _, hx', hbb, iB⟩ := hrB.item hlt
      obtain rfl := Option.some.inj (hx.symm.trans hx')
      have i0 : (k : Int) < (l : Int) := by omega
      have i1 : (0 : Int) ≤ (k : Int) := by omega
      obtain rfl := link_is.1 iA
      obtain rfl := link_is.1 iB
      have e0 : wr.cell? ⟨ba, oa + k * 3, none⟩ = some (.int .i64 x.g) := hba 0 _ rfl
      have e1 : wr.cell? ⟨ba, oa + k * 3 + 1, none⟩ = some (.int .i64 x.s) := hba 1 _ rfl
      have e2 : wr.cell? ⟨ba, oa + k * 3 + 2, none⟩ = some (.bool x.b) := hba 2 _ rfl
      have d0 : wr.cell? ⟨bb, ob + k * 3, none⟩ = some (.int .i64 x.g) := hbb 0 _ rfl
      have d1 : wr.cell? ⟨bb, ob + k * 3 + 1, none⟩ = some (.int .i64 x.s) := hbb 1 _ rfl
      have d2 : wr.cell? ⟨bb, ob + k * 3 + 2, none⟩ = some (.bool x.b) := hbb 2 _ rfl
      clear hba hbb hrA hrB hwr hx hx' iA iB
      go_wp2_with fail
      go_quiet (fail)
      go_wp2_with fail
      refine ⟨⟨k + 1, m + nq, ?_, ?_, ?_⟩, ?_⟩
      · omega
      · go_num
      · rw [HW.out, World.drewN_drewN]
      · simp [intOf]; omega
    · obtain rfl : k = l := by omega
      clear hwr
      go_wp2_with fail
      go_returns
      exact ⟨rfl, m, HW.out⟩
end Go.Proofs.YtoaohoeghlidaaaGreatDoor
