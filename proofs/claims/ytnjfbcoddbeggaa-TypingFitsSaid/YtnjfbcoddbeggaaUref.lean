/-
  Small functions: numbers in lists, kinds, names.
-/
import Derived.Test.YtnjfbcoddbeggaaUbook
namespace Go.Proofs.Ytnjfbcoddbeggaa
open Go Go.ChangeShapes Go.WideShapes Go.ChangeAt Go.RowKit

theorem low_bd (x n : Int) (h : 1 ≤ n) : 0 ≤ (x % 18446744073709551616) % n ∧ (x % 18446744073709551616) % n < n := ⟨Int.emod_nonneg _ (by omega), Int.emod_lt_of_pos _ (by omega)⟩
def low (x n : Int) : Int := (x % 18446744073709551616) % n
theorem wrapu64 (n : Int) : IntKind.u64.wrap n = n % 18446744073709551616 := by simp [IntKind.wrap, IntKind.signed, IntKind.bits]
theorem ret_low {x n : Int} (h0 : 0 ≤ IntKind.u64.wrap x) (h1 : 1 ≤ n) (h2 : n ≤ 10000000000000) : Ending.returned (.int .i64 (wrap64 ((IntKind.u64.wrap x).tmod n))) = .returned (.int .i64 (low x n)) := by
  rw [Int.tmod_eq_emod_of_nonneg h0, wrapu64]
  have := low_bd x n h1
  unfold low at *
  rw [IntWalk.wrap64_in _ (by omega)]
set_option maxRecDepth 100000 in
theorem low_any (x n : Int) (h1 : 1 ≤ n) (h2 : n ≤ 10000000000000) (w : World) : Calls Try.prog 13 #[.int .i64 x, .int .i64 n] w fun e w' => e = .returned (.int .i64 (low x n)) ∧ w' = w := by
  have e1 : IntKind.u64.wrap n = n := by rw [wrapu64]; omega
  have e0 : ¬ n = 0 := by omega
  go_enter Try.func13, Try.ntmps13
  go_wp2
  go_ret
  exact ⟨ret_low (by rw [wrapu64]; omega) h1 h2, rfl⟩

set_option maxHeartbeats 1600000 in
set_option maxRecDepth 100000 in
theorem find_any (S : Nat → Prop) (W : World) (hS : ∀ k, S k → k < W.heap.size) (a : Option Addr) (l c : Nat) (ds : List DeclU) (hr : Row shDecl S W a l ds) (s : ByteArray) :
    Calls Try.prog 19 #[.agg #[.slice a l c], .string s] W fun e W' => e = .returned (.int .i64 (findU ds s)) ∧ Below W.heap.size W W' := by
  have HB0 := Lib.hid ((Below.refl W.heap.size W).alloc (Nat.le_refl _) (.cells #[.slice a l c] 24))
  have hk : ∀ k, S k → (W.alloc (.cells #[.slice a l c] 24)).heap[k]? = W.heap[k]? := fun k h => HB0.out.block k (hS k h)
  have hx0 : (W.alloc (.cells #[.slice a l c] 24)).heap[W.heap.size]? = some (.cells #[.slice a l c] 24 (0, 0)) := heap_alloc_new W _
  have HR := Lib.hid (hr.keep hk)
  have hml : l ≤ 9223372036854775807 := by have := hr.le; unfold maxLen at this; omega
  have HC := Lib.hid (show (W.alloc (.cells #[.slice a l c] 24)).cell? ⟨W.heap.size, 0, none⟩ = some (.slice a l c) by rw [Lib.cell_of_heap hx0]; rfl)
  obtain ⟨R, hR⟩ : ∃ R, findU ds s = R := ⟨_, rfl⟩
  rw [hR]
  have HRR := Lib.hid hR
  have hc := HC.out
  clear hr hR hk hx0
  go_enter Try.func19, Try.ntmps19
  go_wp2_with fail
  clear hc
  generalize (W.alloc (.cells #[.slice a l c] 24)) = V at *
  go_loopw [9] (fun i wr => ∃ (k : Nat), k ≤ l ∧ i = .int .i64 k ∧ (∀ (j : Nat) (y : DeclU), j < k → ds[j]? = some y → y.name ≠ s) ∧ wr = V) (fun i _ => l - (intOf i).toNat)
  case atStart => exact ⟨0, Nat.zero_le _, rfl, fun j y hj => by omega, rfl⟩
  case round =>
    obtain ⟨k, hk, rfl, hno, rfl⟩ := hrel
    have hc := HC.out
    have HN := Lib.hid hno
    clear hno
    by_cases hlt : k < l
    · have i0 : (k : Int) < (l : Int) := by omega
      have i1 : (0 : Int) ≤ (k : Int) := by omega
      obtain ⟨bb, o, x, vs, rfl, _, hx, hca, hI⟩ := HR.out.item hlt
      obtain ⟨a3, l3, c3, a6, l6, c6, a7, l7, c7, d8, a8, l8, c8, rfl, -⟩ := decl_is.1 hI
      have e1 : wr.cell? ⟨bb, o + k * 11 + 1, none⟩ = some (.string x.name) := hca 1 _ rfl
      have HXX := Lib.hid hx
      clear hca hI hx
      by_cases hs : x.name = s
      · have t1 := str_yes hs
        obtain rfl : (k : Int) = R := (find_at HXX.out hs HN.out).symm.trans HRR.out
        clear hs
        go_wp2_with fail
        go_returns
        exact ⟨rfl, HB0.out⟩
      · have t1 := str_no hs
        have HS := Lib.hid hs
        clear hs
        go_wp2_with fail
        refine ⟨⟨k + 1, by omega, by go_num, fun j y hj hy => ?_, trivial⟩, by simp [intOf]; omega⟩
        rcases Nat.lt_succ_iff_lt_or_eq.1 hj with h | rfl
        · exact HN.out j y h hy
        · rw [HXX.out] at hy; cases hy; exact HS.out
    · obtain rfl : k = l := by omega
      obtain rfl : -1 = R := Eq.trans (Eq.symm (show findU ds s = -1 from find_none (fun i x hi => HN.out i x (by have := (List.getElem?_eq_some_iff.1 hi).1; rw [HR.out.1] at this; exact this) hi))) HRR.out
      go_wp2_with fail
      go_returns
      exact ⟨rfl, HB0.out⟩
set_option maxHeartbeats 1600000 in
set_option maxRecDepth 100000 in
theorem rfind_any (S : Nat → Prop) (W : World) (hS : ∀ k, S k → k < W.heap.size) (a : Option Addr) (l c : Nat) (ds : List DeclU) (hr : Row shDecl S W a l ds) (s : ByteArray) :
    Calls Try.prog 20 #[.agg #[.slice a l c], .string s] W fun e W' => e = .returned (.int .i64 (findU ds s)) ∧ Below W.heap.size W W' := by
  have HB0 := Lib.hid ((Below.refl W.heap.size W).alloc (Nat.le_refl _) (.cells #[.slice a l c] 24))
  have hk : ∀ k, S k → (W.alloc (.cells #[.slice a l c] 24)).heap[k]? = W.heap[k]? := fun k h => HB0.out.block k (hS k h)
  have hx0 : (W.alloc (.cells #[.slice a l c] 24)).heap[W.heap.size]? = some (.cells #[.slice a l c] 24 (0, 0)) := heap_alloc_new W _
  have HR := Lib.hid (hr.keep hk)
  have hml : l ≤ 9223372036854775807 := by have := hr.le; unfold maxLen at this; omega
  have HC := Lib.hid (show (W.alloc (.cells #[.slice a l c] 24)).cell? ⟨W.heap.size, 0, none⟩ = some (.slice a l c) by rw [Lib.cell_of_heap hx0]; rfl)
  obtain ⟨R, hR⟩ : ∃ R, findU ds s = R := ⟨_, rfl⟩
  rw [hR]
  have HRR := Lib.hid hR
  have hc := HC.out
  clear hr hR hk hx0
  go_enter Try.func20, Try.ntmps20
  go_wp2_with fail
  clear hc
  generalize (W.alloc (.cells #[.slice a l c] 24)) = V at *
  go_loopw [5] (fun i wr => ∃ (k : Nat), k ≤ l ∧ i = .int .i64 k ∧ (∀ (j : Nat) (y : DeclU), j < k → ds[j]? = some y → y.name ≠ s) ∧ wr = V) (fun i _ => l - (intOf i).toNat)
  case atStart => exact ⟨0, Nat.zero_le _, rfl, fun j y hj => by omega, rfl⟩
  case round =>
    obtain ⟨k, hk, rfl, hno, rfl⟩ := hrel
    have hc := HC.out
    have HN := Lib.hid hno
    clear hno
    by_cases hlt : k < l
    · have i0 : (k : Int) < (l : Int) := by omega
      have i1 : (0 : Int) ≤ (k : Int) := by omega
      obtain ⟨bb, o, x, vs, rfl, _, hx, hca, hI⟩ := HR.out.item hlt
      obtain ⟨a3, l3, c3, a6, l6, c6, a7, l7, c7, d8, a8, l8, c8, rfl, -⟩ := decl_is.1 hI
      have e1 : wr.cell? ⟨bb, o + k * 11 + 1, none⟩ = some (.string x.name) := hca 1 _ rfl
      have HXX := Lib.hid hx
      clear hca hI hx
      by_cases hs : x.name = s
      · have t1 := str_yes hs
        obtain rfl : (k : Int) = R := (find_at HXX.out hs HN.out).symm.trans HRR.out
        clear hs
        go_wp2_with fail
        go_returns
        exact ⟨rfl, HB0.out⟩
      · have t1 := str_no hs
        have HS := Lib.hid hs
        clear hs
        go_wp2_with fail
        refine ⟨⟨k + 1, by omega, by go_num, fun j y hj hy => ?_, trivial⟩, by simp [intOf]; omega⟩
        rcases Nat.lt_succ_iff_lt_or_eq.1 hj with h | rfl
        · exact HN.out j y h hy
        · rw [HXX.out] at hy; cases hy; exact HS.out
    · obtain rfl : k = l := by omega
      obtain rfl : -1 = R := Eq.trans (Eq.symm (show findU ds s = -1 from find_none (fun i x hi => HN.out i x (by have := (List.getElem?_eq_some_iff.1 hi).1; rw [HR.out.1] at this; exact this) hi))) HRR.out
      go_wp2_with fail
      go_returns
      exact ⟨rfl, HB0.out⟩

def kindU (ds : List DeclU) (d : Int) : Int := if 0 ≤ d then (match ds[d.toNat]? with | some x => x.kind | none => 0) else 0
theorem kind_has {ds : List DeclU} {d k : Int} (h : k ≠ 0) : (kindU ds d == k) = hasU ds d k := by
  unfold kindU hasU
  by_cases h0 : 0 ≤ d
  · rw [if_pos h0, decide_eq_true h0, Bool.true_and]
    cases ds[d.toNat]? with
    | some x => rw [Bool.eq_iff_iff]; simp
    | none => simp [Ne.symm h]
  · rw [if_neg h0, decide_eq_false h0, Bool.false_and]
    simp [Ne.symm h]

set_option maxHeartbeats 1600000 in
set_option maxRecDepth 100000 in
theorem kind_any (S : Nat → Prop) (W : World) (hS : ∀ k, S k → k < W.heap.size) (a : Option Addr) (l c : Nat) (ds : List DeclU) (hr : Row shDecl S W a l ds) (d : Int) :
    Calls Try.prog 48 #[.agg #[.slice a l c], .int .i64 d] W fun e W' => e = .returned (.int .i64 (kindU ds d)) ∧ Below W.heap.size W W' := by
  have hml : l ≤ 9223372036854775807 := by have := hr.le; unfold maxLen at this; omega
  have HB0 := Lib.hid ((Below.refl W.heap.size W).alloc (Nat.le_refl _) (.cells #[.slice a l c] 24))
  have hk : ∀ k, S k → (W.alloc (.cells #[.slice a l c] 24)).heap[k]? = W.heap[k]? := fun k h => HB0.out.block k (hS k h)
  have hx0 : (W.alloc (.cells #[.slice a l c] 24)).heap[W.heap.size]? = some (.cells #[.slice a l c] 24 (0, 0)) := heap_alloc_new W _
  have hr0 := hr.keep hk
  have f0 : (W.alloc (.cells #[.slice a l c] 24)).cell? ⟨W.heap.size, 0, none⟩ = some (.slice a l c) := by rw [Lib.cell_of_heap hx0]; rfl
  clear hk hx0 hr
  cases h0 : decide (d < 0) with
  | true =>
    have hq : kindU ds d = 0 := by unfold kindU; rw [if_neg]; have := of_decide_eq_true h0; omega
    rw [hq]
    clear hr0
    go_enter Try.func48, Try.ntmps48
    go_wp2_with fail
    go_returns
    exact ⟨rfl, HB0.out⟩
  | false =>
    obtain ⟨n, rfl⟩ : ∃ n : Nat, d = n := ⟨d.toNat, by have := of_decide_eq_false h0; omega⟩
    by_cases hlt : n < l
    · have i0 : (n : Int) < (l : Int) := by omega
      have i1 : (0 : Int) ≤ (n : Int) := by omega
      have i2 : decide ((l : Int) ≤ (n : Int)) = false := decide_eq_false (by omega)
      obtain ⟨bb, o, x, vs, rfl, _, hx, hca, hI⟩ := hr0.item hlt
      obtain ⟨a3, l3, c3, a6, l6, c6, a7, l7, c7, d8, a8, l8, c8, rfl, -⟩ := decl_is.1 hI
      have e0 : (W.alloc (.cells #[.slice (some ⟨bb, o, none⟩) l c] 24)).cell? ⟨bb, o + n * 11, none⟩ = some (.int .i64 x.kind) := hca 0 _ rfl
      have hq : kindU ds n = x.kind := by unfold kindU; rw [if_pos (by omega)]; simp [hx]
      rw [hq]
      clear hr0 hx hca hI hq
      go_enter Try.func48, Try.ntmps48
      go_wp2_with fail
      go_returns
      exact ⟨rfl, HB0.out⟩
    · have i0 : ¬ (n : Int) < (l : Int) := by omega
      have i2 : decide ((l : Int) ≤ (n : Int)) = true := decide_eq_true (by omega)
      have hq : kindU ds n = 0 := by unfold kindU; rw [if_pos (by omega)]; simp [show ds.length ≤ n by rw [hr0.1]; omega]
      rw [hq]
      clear hr0
      go_enter Try.func48, Try.ntmps48
      go_wp2_with fail
      go_returns
      exact ⟨rfl, HB0.out⟩

set_option maxHeartbeats 1600000 in
set_option maxRecDepth 100000 in
theorem rhas_any (S : Nat → Prop) (W : World) (a : Option Addr) (l c : Nat) (xs : List Int) (hr : Row shInt S W a l xs) (n : Int) :
    Calls Try.prog 53 #[.slice a l c, .int .i64 n] W fun e W' => e = .returned (.bool (xs.contains n)) ∧ W' = W := by
  have HR := Lib.hid hr
  have hml : l ≤ 9223372036854775807 := by have := hr.le; unfold maxLen at this; omega
  obtain ⟨R, hR⟩ : ∃ R, xs.contains n = R := ⟨_, rfl⟩
  rw [hR]
  have HRR := Lib.hid hR
  clear hr hR
  go_enter Try.func53, Try.ntmps53
  go_wp2_with fail
  go_loopw [5] (fun i wr => ∃ (k : Nat), k ≤ l ∧ i = .int .i64 k ∧ (xs.drop k).contains n = R ∧ wr = W) (fun i _ => l - (intOf i).toNat)
  case atStart => exact ⟨0, Nat.zero_le _, rfl, HRR.out, rfl⟩
  case round =>
    obtain ⟨k, hk, rfl, hno, rfl⟩ := hrel
    by_cases hlt : k < l
    · have i0 : (k : Int) < (l : Int) := by omega
      have i1 : (0 : Int) ≤ (k : Int) := by omega
      obtain ⟨bb, o, x, vs, rfl, _, hx, hca, hI⟩ := HR.out.item hlt
      obtain rfl := int_is.1 hI
      have e1 : wr.cell? ⟨bb, o + k, none⟩ = some (.int .i64 x) := by have := hca 0 _ rfl; rw [show o + k * shInt.n + 0 = o + k by show o + k * 1 + 0 = _; omega] at this; exact this
      rw [drop_at_ hx, List.contains_cons] at hno
      have HN := Lib.hid hno
      clear hca hI hx hno
      cases t1 : (x == n) with
      | true =>
        obtain rfl : true = R := by rw [← HN.out, BEq.comm, t1, Bool.true_or]
        go_wp2_with fail
        go_returns
        exact ⟨rfl, rfl⟩
      | false =>
        have HN2 := Lib.hid (show (xs.drop (k + 1)).contains n = R by rw [← HN.out, BEq.comm (a := n), t1, Bool.false_or])
        go_wp2_with fail
        exact ⟨⟨k + 1, by omega, by go_num, HN2.out, trivial⟩, by simp [intOf]; omega⟩
    · obtain rfl : k = l := by omega
      obtain rfl : false = R := by rw [← hno, List.drop_of_length_le (by rw [HR.out.1]; omega)]; rfl
      go_wp2_with fail
      go_returns
      exact ⟨rfl, rfl⟩
set_option maxHeartbeats 1600000 in
set_option maxRecDepth 100000 in
theorem index_any (S : Nat → Prop) (W : World) (a : Option Addr) (l c : Nat) (xs : List Int) (hr : Row shInt S W a l xs) (n : Int) :
    Calls Try.prog 118 #[.slice a l c, .int .i64 n] W fun e W' => (∃ k : Int, e = .returned (.int .i64 k) ∧ decide (0 ≤ k) = xs.contains n) ∧ W' = W := by
  have HR := Lib.hid hr
  have hml : l ≤ 9223372036854775807 := by have := hr.le; unfold maxLen at this; omega
  obtain ⟨R, hR⟩ : ∃ R, xs.contains n = R := ⟨_, rfl⟩
  rw [hR]
  have HRR := Lib.hid hR
  clear hr hR
  go_enter Try.func118, Try.ntmps118
  go_wp2_with fail
  go_loopw [8] (fun i wr => ∃ (k : Nat), k ≤ l ∧ i = .int .i64 k ∧ (xs.drop k).contains n = R ∧ wr = W) (fun i _ => l - (intOf i).toNat)
  case atStart => exact ⟨0, Nat.zero_le _, rfl, HRR.out, rfl⟩
  case round =>
    obtain ⟨k, hk, rfl, hno, rfl⟩ := hrel
    by_cases hlt : k < l
    · have i0 : (k : Int) < (l : Int) := by omega
      have i1 : (0 : Int) ≤ (k : Int) := by omega
      obtain ⟨bb, o, x, vs, rfl, _, hx, hca, hI⟩ := HR.out.item hlt
      obtain rfl := int_is.1 hI
      have e1 : wr.cell? ⟨bb, o + k, none⟩ = some (.int .i64 x) := by have := hca 0 _ rfl; rw [show o + k * shInt.n + 0 = o + k by show o + k * 1 + 0 = _; omega] at this; exact this
      rw [drop_at_ hx, List.contains_cons] at hno
      have HN := Lib.hid hno
      clear hca hI hx hno
      cases t1 : (n == x) with
      | true =>
        obtain rfl : true = R := by rw [← HN.out, t1, Bool.true_or]
        go_wp2_with fail
        go_returns
        exact ⟨⟨_, rfl, by simp⟩, rfl⟩
      | false =>
        have HN2 := Lib.hid (show (xs.drop (k + 1)).contains n = R by rw [← HN.out, t1, Bool.false_or])
        go_wp2_with fail
        exact ⟨⟨k + 1, by omega, by go_num, HN2.out, trivial⟩, by simp [intOf]; omega⟩
    · obtain rfl : k = l := by omega
      obtain rfl : false = R := by rw [← hno, List.drop_of_length_le (by rw [HR.out.1]; omega)]; rfl
      go_wp2_with fail
      go_returns
      exact ⟨⟨_, rfl, by simp⟩, rfl⟩
set_option maxHeartbeats 1600000 in
set_option maxRecDepth 100000 in
theorem contains_any (S : Nat → Prop) (W : World) (a : Option Addr) (l c : Nat) (xs : List Int) (hr : Row shInt S W a l xs) (n : Int) :
    Calls Try.prog 100 #[.slice a l c, .int .i64 n] W fun e W' => e = .returned (.bool (xs.contains n)) ∧ W' = W := by
  have hc := index_any S W a l c xs hr n
  obtain ⟨R, hR⟩ : ∃ R, xs.contains n = R := ⟨_, rfl⟩
  rw [hR] at hc ⊢
  clear hr hR
  go_enter Try.func100, Try.ntmps100
  go_wp2_with (go_at_call 118; refine hc.mono ?_)
  rintro e w1 ⟨⟨k, rfl, hk⟩, rfl⟩
  subst hk
  clear hc
  go_wp2_with fail
  go_returns
  exact ⟨rfl, rfl⟩

end Go.Proofs.Ytnjfbcoddbeggaa
