/-
  A book of a unit: what is there; where a name is.
-/
import Derived.Test.YtnjfbcoddbeggaaUgreat2
namespace Go.Proofs.Ytnjfbcoddbeggaa
open Go Go.ChangeShapes Go.WideShapes Go.ChangeAt Go.RowKit

theorem str_yes {a b : ByteArray} (h : a = b) : (a.toList == b.toList) = true := by rw [str_eq]; exact decide_eq_true h
theorem str_no {a b : ByteArray} (h : a ≠ b) : (a.toList == b.toList) = false := by rw [str_eq]; exact decide_eq_false h
theorem has_in {ds : List DeclU} {n : Nat} {x : DeclU} (hx : ds[n]? = some x) (k : Int) : hasU ds (n : Int) k = (x.kind == k) := by
  unfold hasU
  rw [Bool.eq_iff_iff]
  simp [hx]
theorem has_out {ds : List DeclU} {n : Nat} (hx : ds.length ≤ n) (k : Int) : hasU ds (n : Int) k = false := by
  unfold hasU
  simp [hx]

set_option maxRecDepth 100000 in
theorem has_any (S : Nat → Prop) (W : World) (b : Nat) (a : Option Addr) (l c : Nat) (ds : List DeclU) (hc : W.cell? ⟨b, 0, none⟩ = some (.slice a l c)) (hr : Row shDecl S W a l ds) (d k : Int) :
    Calls Try.prog 76 #[.pointer (some ⟨b, 0, none⟩), .int .i64 d, .int .i64 k] W fun e W' => e = .returned (.bool (hasU ds d k)) ∧ W' = W := by
  have hml : l ≤ 9223372036854775807 := by have := hr.le; unfold maxLen at this; omega
  cases h0 : decide (0 ≤ d) with
  | false =>
    rw [has_neg (by have := of_decide_eq_false h0; omega)]
    clear hr hc
    go_enter Try.func76, Try.ntmps76
    go_wp2_with fail
    go_returns
    exact ⟨rfl, rfl⟩
  | true =>
    obtain ⟨n, rfl⟩ : ∃ n : Nat, d = n := ⟨d.toNat, by have := of_decide_eq_true h0; omega⟩
    by_cases hlt : n < l
    · have i0 : (n : Int) < (l : Int) := by omega
      have i1 : (0 : Int) ≤ (n : Int) := by omega
      obtain ⟨bb, o, x, vs, rfl, _, hx, hca, hI⟩ := hr.item hlt
      obtain ⟨a3, l3, c3, a6, l6, c6, a7, l7, c7, d8, a8, l8, c8, rfl, -⟩ := decl_is.1 hI
      have e0 : W.cell? ⟨bb, o + n * 11, none⟩ = some (.int .i64 x.kind) := hca 0 _ rfl
      rw [has_in hx]
      clear hr hx hca hI h0
      go_enter Try.func76, Try.ntmps76
      go_wp2_with fail
      go_returns
      exact ⟨rfl, rfl⟩
    · have i0 : ¬ (n : Int) < (l : Int) := by omega
      have i2 : decide ((n : Int) < (l : Int)) = false := decide_eq_false i0
      rw [has_out (by rw [hr.1]; omega)]
      clear hr
      go_enter Try.func76, Try.ntmps76
      go_wp2_with fail
      go_returns
      exact ⟨rfl, rfl⟩

set_option maxHeartbeats 1600000 in
set_option maxRecDepth 100000 in
theorem bfind_any (S : Nat → Prop) (W : World) (b : Nat) (a : Option Addr) (l c : Nat) (ds : List DeclU) (hc : W.cell? ⟨b, 0, none⟩ = some (.slice a l c)) (hr : Row shDecl S W a l ds) (hl : l ≤ 16) (s : ByteArray) :
    Calls Try.prog 99 #[.pointer (some ⟨b, 0, none⟩), .string s] W fun e W' => e = .returned (.int .i64 (findU ds s)) ∧ W' = W := by
  have h32 : decide ((32 : Int) < (l : Int)) = false := decide_eq_false (by omega)
  have HR := Lib.hid hr
  have HC := Lib.hid hc
  obtain ⟨R, hR⟩ : ∃ R, findU ds s = R := ⟨_, rfl⟩
  rw [hR]
  have HRR := Lib.hid hR
  clear hr hR
  go_enter Try.func99, Try.ntmps99
  go_wp2_with fail
  go_loopw [22] (fun i wr => ∃ (k : Nat), k ≤ l ∧ i = .int .i64 k ∧ (∀ (j : Nat) (y : DeclU), j < k → ds[j]? = some y → y.name ≠ s) ∧ wr = W) (fun i _ => l - (intOf i).toNat)
  case atStart => exact ⟨0, Nat.zero_le _, rfl, fun j y hj => by omega, rfl⟩
  case round =>
    obtain ⟨k, hk, rfl, hno, rfl⟩ := hrel
    have hc := HC.out
    have HN := Lib.hid hno
    clear hno
    by_cases hlt : k < l
    · have i0 : (k : Int) < (l : Int) := by omega
      have i1 : (0 : Int) ≤ (k : Int) := by omega
      obtain ⟨bb, o, x, vs, rfl, _, hx, hca, hI⟩ := HR.out.item hlt
      obtain ⟨a3, l3, c3, a6, l6, c6, a7, l7, c7, d8, a8, l8, c8, rfl, -⟩ := decl_is.1 hI
      have e1 : wr.cell? ⟨bb, o + k * 11 + 1, none⟩ = some (.string x.name) := hca 1 _ rfl
      have HXX := Lib.hid hx
      clear hca hI hx
      by_cases hs : x.name = s
      · have t1 := str_yes hs
        obtain rfl : (k : Int) = R := (find_at HXX.out hs HN.out).symm.trans HRR.out
        clear hs
        go_wp2_with fail
        go_returns
        exact ⟨rfl, rfl⟩
      · have t1 := str_no hs
        have HS := Lib.hid hs
        clear hs
        go_wp2_with fail
        refine ⟨⟨k + 1, by omega, by go_num, fun j y hj hy => ?_, trivial⟩, by simp [intOf]; omega⟩
        rcases Nat.lt_succ_iff_lt_or_eq.1 hj with h | rfl
        · exact HN.out j y h hy
        · rw [HXX.out] at hy; cases hy; exact HS.out
    · obtain rfl : k = l := by omega
      obtain rfl : -1 = R := Eq.trans (Eq.symm (show findU ds s = -1 from find_none (fun i x hi => HN.out i x (by have := (List.getElem?_eq_some_iff.1 hi).1; rw [HR.out.1] at this; exact this) hi))) HRR.out
      go_wp2_with fail
      go_returns
      exact ⟨rfl, rfl⟩

end Go.Proofs.Ytnjfbcoddbeggaa
