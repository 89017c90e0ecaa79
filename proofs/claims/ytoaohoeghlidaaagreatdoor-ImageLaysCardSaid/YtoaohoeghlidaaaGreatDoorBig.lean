/-
  Whether an image is great: what is not great is small.
-/
import Derived.Test.YtoaohoeghlidaaaGreatDoorGreat
namespace Go.Proofs.YtoaohoeghlidaaaGreatDoor
open Go.ChangeShapes Go.WideShapes Go.ChangeAt Go.RowKit

/-- texts, so many at most, each of so many bytes at most -/
def SmallT (p q : Int) (xs : List ByteArray) : Prop := (xs.length : Int) ≤ p ∧ ∀ (j : Nat) (t : ByteArray), xs[j]? = some t → (t.size : Int) ≤ q
def SmallD (t : DescD) : Prop := (t.fields.size : Int) ≤ 60 ∧ (t.init.length : Int) ≤ 60 ∧ (t.vtable.length : Int) ≤ 60 ∧ (t.tables.length : Int) ≤ 60 ∧ SmallT 40 60 t.sigs ∧ ∀ (j : Nat) (u : TableD), t.tables[j]? = some u → (u.slots.length : Int) ≤ 40
def SmallC (t : CodeD) : Prop := (t.params.size : Int) ≤ 60 ∧ (t.locals.size : Int) ≤ 60 ∧ (t.ops.length : Int) ≤ 200
/-- what GreatTexts answers -/
inductive TPost (p q : Int) (xs : List ByteArray) (W W' : World) (e : Ending) : Prop
  | mk (β : Bool) (h1 : e = .returned (.bool β)) (h2 : W' = W) (h3 : β = false → SmallT p q xs) : TPost p q xs W W' e
theorem mx2_le (a b : Int) : a ≤ mx2 a b ∧ b ≤ mx2 a b := by unfold mx2; split <;> omega
theorem max9_le (a b c d e f g h i : Int) : ∃ M : Int, (∀ (ts : Array TypeId) (t : TypeId) (w : World), (Builtin.max_ ts t #[.int .i64 a, .int .i64 b, .int .i64 c, .int .i64 d, .int .i64 e, .int .i64 f, .int .i64 g, .int .i64 h, .int .i64 i]).run Tryz.prog w = .ok (.int .i64 M) w) ∧ a ≤ M ∧ b ≤ M ∧ c ≤ M ∧ d ≤ M ∧ e ≤ M ∧ f ≤ M ∧ g ≤ M ∧ h ≤ M ∧ i ≤ M := by
  refine ⟨mx2 (mx2 (mx2 (mx2 (mx2 (mx2 (mx2 (mx2 a b) c) d) e) f) g) h) i, fun ts t w => ?_, ?_⟩
  · simp only [Builtin.max_, List.foldlM_cons, List.foldlM_nil, Builtin.max2, Sem.run_bind, Sem.run_pure, Result.andThen_ok]
    rfl
  · have h1 := mx2_le a b
    have h2 := mx2_le (mx2 a b) c
    have h3 := mx2_le (mx2 (mx2 a b) c) d
    have h4 := mx2_le (mx2 (mx2 (mx2 a b) c) d) e
    have h5 := mx2_le (mx2 (mx2 (mx2 (mx2 a b) c) d) e) f
    have h6 := mx2_le (mx2 (mx2 (mx2 (mx2 (mx2 a b) c) d) e) f) g
    have h7 := mx2_le (mx2 (mx2 (mx2 (mx2 (mx2 (mx2 a b) c) d) e) f) g) h
    have h8 := mx2_le (mx2 (mx2 (mx2 (mx2 (mx2 (mx2 (mx2 a b) c) d) e) f) g) h) i
    omega

set_option maxHeartbeats 1600000 in
set_option maxRecDepth 100000 in
theorem texts_small (p q : Int) (a : Option Addr) (l c : Nat) (xs : List ByteArray) (S : Nat → Prop) (W : World) (hr : Row shStr S W a l xs) :
    Calls Tryz.prog 20 #[.slice a l c, .int .i64 p, .int .i64 q] W fun e W' => TPost p q xs W W' e := by
  have hml : l ≤ 9223372036854775807 := by have := hr.le; unfold maxLen at this; omega
  have HR := Lib.hid hr
  clear hr
  cases hp : decide ((l : Int) ≤ p) with
  | false =>
    have HP := Lib.hid (of_decide_eq_false hp)
    go_enter Tryz.func20, Tryz.ntmps20
    go_wp2_with fail
    go_loopw [7] (fun i wr => i = .int .i64 0 ∧ wr = W) (fun _ _ => 0)
    case atStart => exact ⟨rfl, rfl⟩
    case round =>
      obtain ⟨rfl, rfl⟩ := hrel
      by_cases h0 : 0 < l
      · have i0 : (0 : Int) < (l : Int) := by omega
        go_wp2_with fail
        go_returns
        exact ⟨_, rfl, rfl, fun h => absurd (of_decide_eq_false h) (by have := HP.out; omega)⟩
      · obtain rfl : l = 0 := by omega
        go_wp2_with fail
        go_returns
        exact ⟨_, rfl, rfl, fun h => absurd (of_decide_eq_false h) (by have := HP.out; simp at this ⊢; omega)⟩
  | true =>
    have HP := Lib.hid (of_decide_eq_true hp)
    go_enter Tryz.func20, Tryz.ntmps20
    go_wp2_with fail
    go_loopw [7] (fun i wr => ∃ k : Nat, k ≤ l ∧ i = .int .i64 k ∧ wr = W ∧ ∀ (j : Nat) (t : ByteArray), j < k → xs[j]? = some t → (t.size : Int) ≤ q) (fun i _ => l - (intOf i).toNat)
    case atStart => exact ⟨0, Nat.zero_le _, rfl, rfl, fun j _ hj => absurd hj (Nat.not_lt_zero j)⟩
    case round =>
      obtain ⟨k, hk, rfl, rfl, hall⟩ := hrel
      have HALL := Lib.hid hall
      clear hall
      by_cases hlt : k < l
      · obtain ⟨bb, o, x, vs, rfl, _, hx, hb, hI⟩ := HR.out.item hlt
        obtain rfl := str_is.1 hI
        have i0 : (k : Int) < (l : Int) := by omega
        have i1 : (0 : Int) ≤ (k : Int) := by omega
        have e0 : wr.cell? ⟨bb, o + k, none⟩ = some (.string x) := by have := hb 0 _ rfl; rw [show o + k * shStr.n + 0 = o + k by show o + k * 1 + 0 = _; omega] at this; exact this
        have HX := Lib.hid hx
        clear hx hb hI
        cases hq : decide (q < (x.size : Int)) with
        | true =>
          go_wp2_with fail
          go_returns
          exact ⟨_, rfl, rfl, fun h => by cases h⟩
        | false =>
          have HQ := Lib.hid (of_decide_eq_false hq)
          go_wp2_with fail
          refine ⟨⟨k + 1, by omega, by go_num, trivial, fun j t hj ht => ?_⟩, by simp [intOf]; omega⟩
          rcases Nat.lt_or_ge j k with h | h
          · exact HALL.out j t h ht
          · rw [show j = k by omega, HX.out] at ht
            cases ht
            have := HQ.out
            omega
      · obtain rfl : l = k := by omega
        go_wp2_with fail
        go_returns
        refine ⟨_, rfl, rfl, fun _ => ⟨by rw [HR.out.1]; exact HP.out, fun j t ht => HALL.out j t ?_ ht⟩⟩
        have := (List.getElem?_eq_some_iff.1 ht).1
        rw [HR.out.1] at this
        exact this
end Go.Proofs.YtoaohoeghlidaaaGreatDoor
