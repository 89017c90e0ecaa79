/-
  How many parts statements have.
-/
import Derived.Test.YtnjfbcoddbeggaaUforms
import Derived.Test.YtnjfbcoddbeggaaRows
import Derived.WalkKit
import Derived.ProofKit
import Derived.OpenShut
import Derived.WalkLawsBesides
import Derived.WalkSpells
import Derived.Handy
import Derived.Lib.SmallJoins
import Derived.Lib.Hide
import Derived.RegionTactic
import Derived.Deep.QuietTactic
import Derived.Deep.CutBlock
import Derived.Laws.Rows
import Derived.BigQuiet
namespace Go.Proofs.Ytnjfbcoddbeggaa
open Go Go.ChangeShapes Go.WideShapes Go.ChangeAt Go.RowKit

theorem row_lim {T : Type} {sh : Sh T} {lim : Nat} {W W' : World} {a : Option Addr} {l : Nat} {xs : List T} (h : Row sh (fun k => k < lim) W a l xs) (hb : Below lim W W') : Row sh (fun k => k < lim) W' a l xs := h.keep (fun k hk => hb.block k hk)
theorem drop_at_ {T : Type} {xs : List T} {k : Nat} {x : T} (h : xs[k]? = some x) : xs.drop k = x :: xs.drop (k + 1) := by
  obtain ⟨hl, rfl⟩ := List.getElem?_eq_some_iff.1 h
  exact List.drop_eq_getElem_cons hl

/-! ### how many parts: as the program counts them -/
def bigE (x : ExprU) : Bool := decide ((60 : Int) < (x.name.size : Int)) || decide ((60 : Int) < (x.what.size : Int))
def goE (f : List ExprU → Int → Int) (m : Int) : List ExprU → Int → Int
  | [], n => n
  | x :: xs, n => if n ≤ m then (if bigE x = true then wrap64 (m + 1) else goE f m xs (wrap64 (wrap64 (n + 1) + f x.args (wrap64 (m - n))))) else n
def cntE : Nat → List ExprU → Int → Int
  | 0, _, _ => 0
  | d + 1, xs, m => goE (cntE d) m xs 0
def goL (m : Int) : List (List Int) → Int → Int
  | [], n => n
  | x :: xs, n => if n ≤ m then goL m xs (wrap64 (wrap64 (n + 1) + (x.length : Int))) else n
def goB (f : List StmtU → Int → Int) (m : Int) : List (List StmtU) → Int → Int
  | [], n => n
  | x :: xs, n => if n ≤ m then goB f m xs (wrap64 (wrap64 (n + 1) + f x (wrap64 (m - n)))) else n
def oneS (d : Nat) (f : List StmtU → Int → Int) (m : Int) (x : StmtU) (n : Int) : Int :=
  goB f m x.blocks (goL m x.labels (wrap64 (wrap64 (n + 1) + cntE d x.exprs (wrap64 (m - n)))))
def goS (d : Nat) (f : List StmtU → Int → Int) (m : Int) : List StmtU → Int → Int
  | [], n => n
  | x :: xs, n => if n ≤ m then (if decide ((60 : Int) < (x.name.size : Int)) = true then wrap64 (m + 1) else goS d f m xs (oneS d f m x n)) else n
def cntS : Nat → List StmtU → Int → Int
  | 0, _, _ => 0
  | d + 1, xs, m => goS d (cntS d) m xs 0

theorem row_none {T : Type} {sh : Sh T} {S : Nat → Prop} {W : World} {a : Option Addr} {l : Nat} {xs : List T} (hr : Row sh S W a l xs) (hn : ∀ {vs x}, ¬ sh.Is S W vs x) : l = 0 := by
  rcases Nat.eq_zero_or_pos l with h | h
  · exact h
  · obtain ⟨_, _, _, _, _, _, _, _, hI⟩ := hr.item h
    exact absurd hI hn

set_option maxHeartbeats 1600000 in
set_option maxRecDepth 100000 in
theorem exprs_any (S : Nat → Prop) : ∀ (d : Nat) (W : World) (a : Option Addr) (l c : Nat) (m : Int) (xs : List ExprU), Row (shE d) S W a l xs →
    Calls Try.prog 58 #[.slice a l c, .int .i64 m] W fun e W' => e = .returned (.int .i64 (cntE d xs m)) ∧ W' = W := by
  intro d
  induction d with
  | zero =>
    intro W a l c m xs hr
    obtain rfl := row_none hr (fun h => h)
    clear hr
    go_enter Try.func58, Try.ntmps58
    go_wp2_with fail
    go_loopw [5, 6] (fun n i wr => n = .int .i64 0 ∧ i = .int .i64 0 ∧ wr = W) (fun _ _ _ => 0)
    case atStart => exact ⟨rfl, rfl, rfl⟩
    case round =>
      obtain ⟨rfl, rfl, rfl⟩ := hrel
      go_wp2_with fail
      go_returns
      exact ⟨rfl, rfl⟩
  | succ d ih =>
    intro W a l c m xs hr
    have HR := Lib.hid hr
    have hml : l ≤ 9223372036854775807 := by have := hr.le; unfold maxLen at this; omega
    clear hr
    show Calls Try.prog 58 #[.slice a l c, .int .i64 m] W fun e W' => e = .returned (.int .i64 (goE (cntE d) m xs 0)) ∧ W' = W
    obtain ⟨R, hR⟩ : ∃ R, goE (cntE d) m xs 0 = R := ⟨_, rfl⟩
    rw [hR]
    have HRS := Lib.hid hR
    clear hR
    go_enter Try.func58, Try.ntmps58
    go_wp2_with fail
    go_loopw [5, 6] (fun n i wr => ∃ (k : Nat) (N : Int), k ≤ l ∧ n = .int .i64 N ∧ i = .int .i64 k ∧ goE (cntE d) m (xs.drop k) N = R ∧ wr = W) (fun _ i _ => l - (intOf i).toNat)
    case atStart => exact ⟨0, 0, Nat.zero_le _, rfl, rfl, HRS.out, rfl⟩
    case round =>
      obtain ⟨k, N, hk, rfl, rfl, hgo, rfl⟩ := hrel
      clear HRS
      by_cases hlt : k < l
      · have i0 : (k : Int) < (l : Int) := by omega
        have i1 : (0 : Int) ≤ (k : Int) := by omega
        obtain ⟨b, o, x, vs, rfl, _, hx, hc, hI⟩ := HR.out.item hlt
        obtain ⟨a4, l4, c4, rfl, hr4⟩ := e_is.1 hI
        rw [drop_at_ hx] at hgo
        unfold goE at hgo
        cases hN : decide (N ≤ m) with
        | false =>
          rw [if_neg (of_decide_eq_false hN)] at hgo
          subst hgo
          clear hx hc hI ih hr4
          go_wp2_with fail
          go_returns
          exact ⟨rfl, rfl⟩
        | true =>
        rw [if_pos (of_decide_eq_true hN)] at hgo
        unfold bigE at hgo
        have e2 : wr.cell? ⟨b, o + k * 5 + 2, none⟩ = some (.string x.name) := hc 2 _ rfl
        have e3 : wr.cell? ⟨b, o + k * 5 + 3, none⟩ = some (.string x.what) := hc 3 _ rfl
        have e4 : wr.cell? ⟨b, o + k * 5 + 4, none⟩ = some (.slice a4 l4 c4) := hc 4 _ rfl
        have hrec := ih wr a4 l4 c4 (wrap64 (m - N)) x.args hr4
        clear hx hc hI ih hr4
        cases h6 : decide ((60 : Int) < (x.name.size : Int)) with
        | true =>
          rw [h6, Bool.true_or, if_pos rfl] at hgo
          subst hgo
          clear hrec
          go_wp2_with fail
          go_returns
          exact ⟨rfl, rfl⟩
        | false =>
        cases h7 : decide ((60 : Int) < (x.what.size : Int)) with
        | true =>
          rw [h6, h7, Bool.false_or, if_pos rfl] at hgo
          subst hgo
          clear hrec
          go_wp2_with fail
          go_returns
          exact ⟨rfl, rfl⟩
        | false =>
        rw [h6, h7, Bool.false_or, if_neg Bool.false_ne_true] at hgo
        have HG := Lib.hid hgo
        clear hgo
        generalize cntE d x.args (wrap64 (m - N)) = q at *
        go_wp2_with (go_at_call 58; refine hrec.mono ?_)
        rintro e w1 ⟨rfl, rfl⟩
        clear hrec
        go_wp2_with fail
        exact ⟨⟨k + 1, _, by omega, rfl, by go_num, HG.out, trivial⟩, by simp [intOf]; omega⟩
      · obtain rfl : k = l := by omega
        rw [List.drop_of_length_le (by rw [HR.out.1]; omega)] at hgo
        unfold goE at hgo
        subst hgo
        go_wp2_with fail
        go_returns
        exact ⟨rfl, rfl⟩

def goV (L m : Int) : List VarU → Int
  | [] => L
  | x :: xs => if L ≤ m then (if decide ((60 : Int) < (x.name.size : Int)) = true then wrap64 (m + 1) else if decide ((60 : Int) < (x.type.name.size : Int)) = true then wrap64 (m + 1) else goV L m xs) else L
def goT (L m g : Int) : List ByteArray → Bool
  | [] => decide (m < L)
  | x :: xs => if L ≤ m then (if decide (g < (x.size : Int)) = true then true else goT L m g xs) else decide (m < L)

set_option maxHeartbeats 1600000 in
set_option maxRecDepth 100000 in
theorem vars_any (S : Nat → Prop) (W : World) (a : Option Addr) (l c : Nat) (m : Int) (xs : List VarU) (hr : Row shVar S W a l xs) :
    Calls Try.prog 43 #[.slice a l c, .int .i64 m] W fun e W' => e = .returned (.int .i64 (goV l m xs)) ∧ W' = W := by
  have HR := Lib.hid hr
  have hml : l ≤ 9223372036854775807 := by have := hr.le; unfold maxLen at this; omega
  clear hr
  obtain ⟨R, hR⟩ : ∃ R, goV l m xs = R := ⟨_, rfl⟩
  rw [hR]
  have HRS := Lib.hid hR
  clear hR
  go_enter Try.func43, Try.ntmps43
  go_wp2_with fail
  go_loopw [5] (fun i wr => ∃ (k : Nat), k ≤ l ∧ i = .int .i64 k ∧ goV l m (xs.drop k) = R ∧ wr = W) (fun i _ => l - (intOf i).toNat)
  case atStart => exact ⟨0, Nat.zero_le _, rfl, HRS.out, rfl⟩
  case round =>
    obtain ⟨k, hk, rfl, hgo, rfl⟩ := hrel
    clear HRS
    by_cases hlt : k < l
    · have i0 : (k : Int) < (l : Int) := by omega
      have i1 : (0 : Int) ≤ (k : Int) := by omega
      obtain ⟨b, o, x, vs, rfl, _, hx, hc, hI⟩ := HR.out.item hlt
      obtain rfl := var_is.1 hI
      rw [drop_at_ hx] at hgo
      unfold goV at hgo
      cases hN : decide ((l : Int) ≤ m) with
      | false =>
        rw [if_neg (of_decide_eq_false hN)] at hgo
        subst hgo
        clear hx hc hI
        go_wp2_with fail
        go_returns
        exact ⟨rfl, rfl⟩
      | true =>
      rw [if_pos (of_decide_eq_true hN)] at hgo
      have e2 : wr.cell? ⟨b, o + k * 8, none⟩ = some (.string x.name) := hc 0 _ rfl
      have e3 : wr.cell? ⟨b, o + k * 8 + 1 + 3, none⟩ = some (.string x.type.name) := hc 4 _ rfl
      clear hx hc hI
      cases h6 : decide ((60 : Int) < (x.name.size : Int)) with
      | true =>
        rw [h6, if_pos rfl] at hgo
        subst hgo
        go_wp2_with fail
        go_returns
        exact ⟨rfl, rfl⟩
      | false =>
      cases h7 : decide ((60 : Int) < (x.type.name.size : Int)) with
      | true =>
        rw [h6, h7, if_neg Bool.false_ne_true, if_pos rfl] at hgo
        subst hgo
        go_wp2_with fail
        go_returns
        exact ⟨rfl, rfl⟩
      | false =>
      rw [h6, h7, if_neg Bool.false_ne_true, if_neg Bool.false_ne_true] at hgo
      have HG := Lib.hid hgo
      clear hgo
      go_wp2_with fail
      exact ⟨⟨k + 1, by omega, by go_num, HG.out, trivial⟩, by simp [intOf]; omega⟩
    · obtain rfl : k = l := by omega
      rw [List.drop_of_length_le (by rw [HR.out.1]; omega)] at hgo
      unfold goV at hgo
      subst hgo
      go_wp2_with fail
      go_returns
      exact ⟨rfl, rfl⟩

set_option maxHeartbeats 1600000 in
set_option maxRecDepth 100000 in
theorem texts_any (S : Nat → Prop) (W : World) (a : Option Addr) (l c : Nat) (m g : Int) (xs : List ByteArray) (hr : Row shStr S W a l xs) :
    Calls Try.prog 42 #[.slice a l c, .int .i64 m, .int .i64 g] W fun e W' => e = .returned (.bool (goT l m g xs)) ∧ W' = W := by
  have HR := Lib.hid hr
  have hml : l ≤ 9223372036854775807 := by have := hr.le; unfold maxLen at this; omega
  clear hr
  obtain ⟨R, hR⟩ : ∃ R, goT l m g xs = R := ⟨_, rfl⟩
  rw [hR]
  have HRS := Lib.hid hR
  clear hR
  go_enter Try.func42, Try.ntmps42
  go_wp2_with fail
  go_loopw [7] (fun i wr => ∃ (k : Nat), k ≤ l ∧ i = .int .i64 k ∧ goT l m g (xs.drop k) = R ∧ wr = W) (fun i _ => l - (intOf i).toNat)
  case atStart => exact ⟨0, Nat.zero_le _, rfl, HRS.out, rfl⟩
  case round =>
    obtain ⟨k, hk, rfl, hgo, rfl⟩ := hrel
    clear HRS
    by_cases hlt : k < l
    · have i0 : (k : Int) < (l : Int) := by omega
      have i1 : (0 : Int) ≤ (k : Int) := by omega
      obtain ⟨b, o, x, vs, rfl, _, hx, hc, hI⟩ := HR.out.item hlt
      obtain rfl := str_is.1 hI
      rw [drop_at_ hx] at hgo
      unfold goT at hgo
      cases hN : decide ((l : Int) ≤ m) with
      | false =>
        have hN2 := of_decide_eq_false hN
        have hN3 : decide (m < (l : Int)) = true := decide_eq_true (by omega)
        rw [if_neg hN2, hN3] at hgo
        subst hgo
        clear hx hc hI hN2
        go_wp2_with fail
        go_returns
        exact ⟨rfl, rfl⟩
      | true =>
      rw [if_pos (of_decide_eq_true hN)] at hgo
      have e2 : wr.cell? ⟨b, o + k, none⟩ = some (.string x) := by have := hc 0 _ rfl; rw [show o + k * shStr.n + 0 = o + k by show o + k * 1 + 0 = _; omega] at this; exact this
      clear hx hc hI
      cases h6 : decide (g < (x.size : Int)) with
      | true =>
        rw [h6, if_pos rfl] at hgo
        subst hgo
        go_wp2_with fail
        go_returns
        exact ⟨rfl, rfl⟩
      | false =>
      rw [h6, if_neg Bool.false_ne_true] at hgo
      have HG := Lib.hid hgo
      clear hgo
      go_wp2_with fail
      exact ⟨⟨k + 1, by omega, by go_num, HG.out, trivial⟩, by simp [intOf]; omega⟩
    · obtain rfl : k = l := by omega
      rw [List.drop_of_length_le (by rw [HR.out.1]; omega)] at hgo
      unfold goT at hgo
      cases hN : decide (m < (k : Int)) with
      | false =>
        rw [hN] at hgo
        subst hgo
        go_wp2_with fail
        go_returns
        exact ⟨rfl, rfl⟩
      | true =>
        rw [hN] at hgo
        subst hgo
        go_wp2_with fail
        go_returns
        exact ⟨rfl, rfl⟩

set_option maxHeartbeats 3200000 in
set_option maxRecDepth 100000 in
theorem stmts_any (S : Nat → Prop) : ∀ (d : Nat) (W : World) (a : Option Addr) (l c : Nat) (m : Int) (xs : List StmtU), Row (shS d) S W a l xs →
    Calls Try.prog 44 #[.slice a l c, .int .i64 m] W fun e W' => e = .returned (.int .i64 (cntS d xs m)) ∧ W' = W := by
  intro d
  induction d with
  | zero =>
    intro W a l c m xs hr
    obtain rfl := row_none hr (fun h => h)
    clear hr
    go_enter Try.func44, Try.ntmps44
    go_wp2_with fail
    go_loopw [5, 6] (fun n i wr => n = .int .i64 0 ∧ i = .int .i64 0 ∧ wr = W) (fun _ _ _ => 0)
    case atStart => exact ⟨rfl, rfl, rfl⟩
    case round =>
      obtain ⟨rfl, rfl, rfl⟩ := hrel
      go_wp2_with fail
      go_returns
      exact ⟨rfl, rfl⟩
  | succ d ih =>
    intro W a l c m xs hr
    have HR := Lib.hid hr
    have hml : l ≤ 9223372036854775807 := by have := hr.le; unfold maxLen at this; omega
    clear hr
    show Calls Try.prog 44 #[.slice a l c, .int .i64 m] W fun e W' => e = .returned (.int .i64 (goS d (cntS d) m xs 0)) ∧ W' = W
    obtain ⟨R, hR⟩ : ∃ R, goS d (cntS d) m xs 0 = R := ⟨_, rfl⟩
    rw [hR]
    have HRS := Lib.hid hR
    clear hR
    go_enter Try.func44, Try.ntmps44
    go_wp2_with fail
    go_loopw [5, 6] (fun n i wr => ∃ (k : Nat) (N : Int), k ≤ l ∧ n = .int .i64 N ∧ i = .int .i64 k ∧ goS d (cntS d) m (xs.drop k) N = R ∧ wr = W) (fun _ i _ => l - (intOf i).toNat)
    case atStart => exact ⟨0, 0, Nat.zero_le _, rfl, rfl, HRS.out, rfl⟩
    case round =>
      obtain ⟨k, N, hk, rfl, rfl, hgo, rfl⟩ := hrel
      clear HRS
      by_cases hlt : k < l
      · have i0 : (k : Int) < (l : Int) := by omega
        have i1 : (0 : Int) ≤ (k : Int) := by omega
        obtain ⟨b, o, x, vs, rfl, _, hx, hc, hI⟩ := HR.out.item hlt
        obtain ⟨a3, l3, c3, a4, l4, c4, a5, l5, c5, rfl, hr3, hr4, hr5⟩ := s_is.1 hI
        rw [drop_at_ hx] at hgo
        unfold goS at hgo
        cases hN : decide (N ≤ m) with
        | false =>
          rw [if_neg (of_decide_eq_false hN)] at hgo
          subst hgo
          clear hx hc hI ih hr3 hr4 hr5
          go_wp2_with fail
          go_returns
          exact ⟨rfl, rfl⟩
        | true =>
        rw [if_pos (of_decide_eq_true hN)] at hgo
        have e2 : wr.cell? ⟨b, o + k * 6 + 2, none⟩ = some (.string x.name) := hc 2 _ rfl
        have e3 : wr.cell? ⟨b, o + k * 6 + 3, none⟩ = some (.slice a3 l3 c3) := hc 3 _ rfl
        have e4 : wr.cell? ⟨b, o + k * 6 + 4, none⟩ = some (.slice a4 l4 c4) := hc 4 _ rfl
        have e5 : wr.cell? ⟨b, o + k * 6 + 5, none⟩ = some (.slice a5 l5 c5) := hc 5 _ rfl
        have H4 := Lib.hid hr4
        have H5 := Lib.hid hr5
        have IH := Lib.hid ih
        have hm4 : l4 ≤ 9223372036854775807 := by have := hr4.le; unfold maxLen at this; omega
        have hm5 : l5 ≤ 9223372036854775807 := by have := hr5.le; unfold maxLen at this; omega
        have hex := exprs_any S d wr a3 l3 c3 (wrap64 (m - N)) x.exprs hr3
        clear hx hc hI ih hr3 hr4 hr5
        cases h6 : decide ((60 : Int) < (x.name.size : Int)) with
        | true =>
          rw [h6, if_pos rfl] at hgo
          subst hgo
          clear hex
          go_wp2_with fail
          go_returns
          exact ⟨rfl, rfl⟩
        | false =>
        rw [h6, if_neg Bool.false_ne_true] at hgo
        obtain ⟨R1, hR1⟩ : ∃ R1, oneS d (cntS d) m x N = R1 := ⟨_, rfl⟩
        rw [hR1] at hgo
        unfold oneS at hR1
        generalize cntE d x.exprs (wrap64 (m - N)) = q at *
        obtain ⟨R2, hR2⟩ : ∃ R2, goL m x.labels (wrap64 (wrap64 (N + 1) + q)) = R2 := ⟨_, rfl⟩
        rw [hR2] at hR1
        have HG := Lib.hid hgo
        have HR1 := Lib.hid hR1
        have HR2 := Lib.hid hR2
        clear hgo hR1 hR2
        go_wp2_with (go_at_call 58; refine hex.mono ?_)
        rintro e w1 ⟨rfl, rfl⟩
        clear hex
        go_wp2_with fail
        go_loopw [5, 7] (fun n i wq => ∃ (j : Nat) (M : Int), j ≤ l4 ∧ n = .int .i64 M ∧ i = .int .i64 j ∧ goL m (x.labels.drop j) M = R2 ∧ wq = w1) (fun _ i _ => l4 - (intOf i).toNat)
        case atStart => exact ⟨0, _, Nat.zero_le _, rfl, rfl, HR2.out, rfl⟩
        case round =>
          obtain ⟨j, M, hj, rfl, rfl, hgl, rfl⟩ := hrel
          clear HR2
          by_cases hjl : j < l4
          · have j0 : (j : Int) < (l4 : Int) := by omega
            have j1 : (0 : Int) ≤ (j : Int) := by omega
            obtain ⟨b4, o4, y, vs4, rfl, _, hy, hc4, hI4⟩ := H4.out.item hjl
            obtain ⟨ay, ly, cy, rfl, hry⟩ := slice_is.1 hI4
            rw [drop_at_ hy] at hgl
            unfold goL at hgl
            cases hM : decide (M ≤ m) with
            | false =>
              rw [if_neg (of_decide_eq_false hM)] at hgl
              subst hgl
              clear hy hc4 hI4 hry
              go_wp2_with fail
              go_loopw [5, 8] (fun n i wq => ∃ (j : Nat) (M : Int), j ≤ l5 ∧ n = .int .i64 M ∧ i = .int .i64 j ∧ goB (cntS d) m (x.blocks.drop j) M = R1 ∧ wq = wr) (fun _ i _ => l5 - (intOf i).toNat)
              case atStart => exact ⟨0, _, Nat.zero_le _, rfl, rfl, HR1.out, rfl⟩
              case round =>
                obtain ⟨j', M', hj', rfl, rfl, hgl, rfl⟩ := hrel
                clear HR1
                by_cases hjl' : j' < l5
                · have j0' : (j' : Int) < (l5 : Int) := by omega
                  have j1' : (0 : Int) ≤ (j' : Int) := by omega
                  obtain ⟨b5, o5, y', vs5, rfl, _, hy', hc5, hI5⟩ := H5.out.item hjl'
                  obtain ⟨ay', ly', cy', rfl, hry'⟩ := slice_is.1 hI5
                  rw [drop_at_ hy'] at hgl
                  unfold goB at hgl
                  cases hM' : decide (M' ≤ m) with
                  | false =>
                    rw [if_neg (of_decide_eq_false hM')] at hgl
                    subst hgl
                    clear hy' hc5 hI5 hry' IH H4 H5
                    go_wp2_with fail
                    exact ⟨⟨k + 1, _, by omega, rfl, by go_num, HG.out, trivial⟩, by simp [intOf]; omega⟩
                  | true =>
                    rw [if_pos (of_decide_eq_true hM')] at hgl
                    have y0' : wr.cell? ⟨b5, o5 + j', none⟩ = some (.slice ay' ly' cy') := by have := hc5 0 _ rfl; rw [show o5 + j' * (shSlice (shS d)).n + 0 = o5 + j' by show o5 + j' * 1 + 0 = _; omega] at this; exact this
                    have hrec := IH.out wr ay' ly' cy' (wrap64 (m - M')) y' hry'
                    generalize cntS d y' (wrap64 (m - M')) = q' at *
                    have HGL := Lib.hid hgl
                    clear hy' hc5 hI5 hry' hgl
                    go_wp2_with (go_at_call 44; refine hrec.mono ?_)
                    rintro e w2 ⟨rfl, rfl⟩
                    clear hrec
                    go_wp2_with fail
                    exact ⟨⟨j' + 1, _, by omega, rfl, by go_num, HGL.out, trivial⟩, by simp [intOf]; omega⟩
                · obtain rfl : j' = l5 := by omega
                  rw [List.drop_of_length_le (by rw [H5.out.1]; omega)] at hgl
                  unfold goB at hgl
                  subst hgl
                  clear IH H4 H5
                  go_wp2_with fail
                  exact ⟨⟨k + 1, _, by omega, rfl, by go_num, HG.out, trivial⟩, by simp [intOf]; omega⟩
            | true =>
              rw [if_pos (of_decide_eq_true hM)] at hgl
              rw [hry.1] at hgl
              have y0 : wr.cell? ⟨b4, o4 + j, none⟩ = some (.slice ay ly cy) := by have := hc4 0 _ rfl; rw [show o4 + j * (shSlice shInt).n + 0 = o4 + j by show o4 + j * 1 + 0 = _; omega] at this; exact this
              have HGL := Lib.hid hgl
              clear hy hc4 hI4 hry hgl
              go_wp2_with fail
              exact ⟨⟨j + 1, _, by omega, rfl, by go_num, HGL.out, trivial⟩, by simp [intOf]; omega⟩
          · obtain rfl : j = l4 := by omega
            rw [List.drop_of_length_le (by rw [H4.out.1]; omega)] at hgl
            unfold goL at hgl
            subst hgl
            go_wp2_with fail
            go_loopw [5, 8] (fun n i wq => ∃ (j : Nat) (M : Int), j ≤ l5 ∧ n = .int .i64 M ∧ i = .int .i64 j ∧ goB (cntS d) m (x.blocks.drop j) M = R1 ∧ wq = wr) (fun _ i _ => l5 - (intOf i).toNat)
            case atStart => exact ⟨0, _, Nat.zero_le _, rfl, rfl, HR1.out, rfl⟩
            case round =>
              obtain ⟨j', M', hj', rfl, rfl, hgl, rfl⟩ := hrel
              clear HR1
              by_cases hjl' : j' < l5
              · have j0' : (j' : Int) < (l5 : Int) := by omega
                have j1' : (0 : Int) ≤ (j' : Int) := by omega
                obtain ⟨b5, o5, y', vs5, rfl, _, hy', hc5, hI5⟩ := H5.out.item hjl'
                obtain ⟨ay', ly', cy', rfl, hry'⟩ := slice_is.1 hI5
                rw [drop_at_ hy'] at hgl
                unfold goB at hgl
                cases hM' : decide (M' ≤ m) with
                | false =>
                  rw [if_neg (of_decide_eq_false hM')] at hgl
                  subst hgl
                  clear hy' hc5 hI5 hry' IH H4 H5
                  go_wp2_with fail
                  exact ⟨⟨k + 1, _, by omega, rfl, by go_num, HG.out, trivial⟩, by simp [intOf]; omega⟩
                | true =>
                  rw [if_pos (of_decide_eq_true hM')] at hgl
                  have y0' : wr.cell? ⟨b5, o5 + j', none⟩ = some (.slice ay' ly' cy') := by have := hc5 0 _ rfl; rw [show o5 + j' * (shSlice (shS d)).n + 0 = o5 + j' by show o5 + j' * 1 + 0 = _; omega] at this; exact this
                  have hrec := IH.out wr ay' ly' cy' (wrap64 (m - M')) y' hry'
                  generalize cntS d y' (wrap64 (m - M')) = q' at *
                  have HGL := Lib.hid hgl
                  clear hy' hc5 hI5 hry' hgl
                  go_wp2_with (go_at_call 44; refine hrec.mono ?_)
                  rintro e w2 ⟨rfl, rfl⟩
                  clear hrec
                  go_wp2_with fail
                  exact ⟨⟨j' + 1, _, by omega, rfl, by go_num, HGL.out, trivial⟩, by simp [intOf]; omega⟩
              · obtain rfl : j' = l5 := by omega
                rw [List.drop_of_length_le (by rw [H5.out.1]; omega)] at hgl
                unfold goB at hgl
                subst hgl
                clear IH H4 H5
                go_wp2_with fail
                exact ⟨⟨k + 1, _, by omega, rfl, by go_num, HG.out, trivial⟩, by simp [intOf]; omega⟩
      · obtain rfl : k = l := by omega
        rw [List.drop_of_length_le (by rw [HR.out.1]; omega)] at hgo
        unfold goS at hgo
        subst hgo
        go_wp2_with fail
        go_returns
        exact ⟨rfl, rfl⟩

end Go.Proofs.Ytnjfbcoddbeggaa
