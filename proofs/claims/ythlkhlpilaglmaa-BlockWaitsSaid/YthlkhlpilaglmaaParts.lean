/-
  Package block: what each of its small functions answers, and what stands in memory behind it, for whatever block and numbers: a contract a function.
-/
import Derived.Test.YthlkhlpilaglmaaRows
import Derived.WalkKit
import Derived.ProofKit
import Derived.OpenShut
import Derived.WalkLawsBesides
import Derived.WalkSpells
import Derived.Handy
import Derived.Deep.DeepCutAuto
namespace Go.Proofs.Ythlkhlpilaglmaa
open Go.ChangeShapes Go.WideShapes Go.ChangeAt Go.RowKit

/-- a block's value -/
abbrev blk (k : Int) (q l o : Bool) (c : Int) : Value := .agg #[.int .i64 k, .bool q, .bool l, .bool o, .int .i64 c]
theorem ret_blk {k c c' : Int} {q q' l l' o o' : Bool} {w : World} (hq : q = q') (hl : l = l') (ho : o = o') (hc : c = c') : Ending.returned (blk k q l o c) = .returned (blk k q' l' o' c') ∧ (w.alloc (.cells #[.int .i64 k, .bool q', .bool l', .bool o', .int .i64 c'] 23)).alloc (.cells #[.int .i64 k, .bool q', .bool l', .bool o', .int .i64 c'] 23) = (w.alloc (.cells #[.int .i64 k, .bool q, .bool l, .bool o, .int .i64 c] 23)).alloc (.cells #[.int .i64 k, .bool q, .bool l, .bool o, .int .i64 c] 23) := by rw [hq, hl, ho, hc]; exact ⟨rfl, rfl⟩
/-- the lesser of two -/
def mn (x p : Int) : Int := if p < x then p else x
def clamp (hi x : Int) : Int := if x < 0 then 0 else if hi < x then hi else x
theorem mn_l {x p : Int} (h : p < x) : mn x p = p := if_pos h
theorem mn_r {x p : Int} (h : ¬ p < x) : mn x p = x := if_neg h
theorem mn_r' {x p : Int} (h : x ≤ p) : mn x p = x := if_neg (by omega)

def onT (o : Bool) (c : Int) (i : Bool) (p d : Int) : Bool × Bool × Int :=
  match i, o with
  | false, _ => (false, false, 0)
  | true, true => (decide (p ≤ mn (wrap64 (c + d)) p), true, mn (wrap64 (c + d)) p)
  | true, false => (decide (p ≤ 0), true, 0)
theorem on_any (k : Int) (q l o : Bool) (c : Int) (i : Bool) (p d : Int) (w : World) :
    Calls Try.prog 12 #[blk k q l o c, .bool i, .int .i64 p, .int .i64 d] w fun e w' => e = .returned (blk k (onT o c i p d).1 l (onT o c i p d).2.1 (onT o c i p d).2.2) ∧ (w.alloc (.cells #[.int .i64 k, .bool (onT o c i p d).1, .bool l, .bool (onT o c i p d).2.1, .int .i64 (onT o c i p d).2.2] 23)).alloc (.cells #[.int .i64 k, .bool (onT o c i p d).1, .bool l, .bool (onT o c i p d).2.1, .int .i64 (onT o c i p d).2.2] 23) = w' := by
  cases i
  · go_enter Try.func12, Try.ntmps12
    go_wp2
    go_returns
    exact ⟨rfl, rfl⟩
  · cases o
    · go_enter Try.func12, Try.ntmps12
      go_wp2
      go_returns
      exact ⟨rfl, rfl⟩
    · go_enter Try.func12, Try.ntmps12
      go_wp2
      all_goals go_returns
      · have h : p < wrap64 (c + d) := by assumption
        exact ret_blk (by simp [onT, mn_l h]) rfl rfl (by simp [onT, mn_l h])
      · have h : wrap64 (c + d) ≤ p := by assumption
        exact ret_blk (by simp [onT, mn_r' h]) rfl rfl (by simp [onT, mn_r' h])

def offT (q : Bool) (c : Int) (i : Bool) (p d : Int) : Bool × Int :=
  match i, q with
  | true, _ => (true, 0)
  | false, true => (decide (mn (wrap64 (c + d)) p < p), mn (wrap64 (c + d)) p)
  | false, false => (false, c)
theorem off_any (k : Int) (q l o : Bool) (c : Int) (i : Bool) (p d : Int) (w : World) :
    Calls Try.prog 13 #[blk k q l o c, .bool i, .int .i64 p, .int .i64 d] w fun e w' => e = .returned (blk k (offT q c i p d).1 l o (offT q c i p d).2) ∧ (w.alloc (.cells #[.int .i64 k, .bool (offT q c i p d).1, .bool l, .bool o, .int .i64 (offT q c i p d).2] 23)).alloc (.cells #[.int .i64 k, .bool (offT q c i p d).1, .bool l, .bool o, .int .i64 (offT q c i p d).2] 23) = w' := by
  cases i
  · cases q
    · go_enter Try.func13, Try.ntmps13
      go_wp2
      go_returns
      exact ⟨rfl, rfl⟩
    · go_enter Try.func13, Try.ntmps13
      go_wp2
      all_goals go_returns
      · have h : p < wrap64 (c + d) := by assumption
        exact ret_blk (by simp [offT, mn_l h]) rfl rfl (by simp [offT, mn_l h])
      · have h : wrap64 (c + d) ≤ p := by assumption
        exact ret_blk (by simp [offT, mn_r' h]) rfl rfl (by simp [offT, mn_r' h])
  · go_enter Try.func13, Try.ntmps13
    go_wp2
    go_returns
    exact ⟨rfl, rfl⟩

def pulC (o : Bool) (c : Int) (r : Bool) (p d : Int) : Int :=
  match o, r with
  | true, _ => mn (wrap64 (c + d)) p
  | false, true => 0
  | false, false => c
def pulO (o : Bool) (c : Int) (r : Bool) (p d : Int) : Bool := (o || r) && !decide (p ≤ pulC o c r p d)
theorem pul_any (k : Int) (q l o : Bool) (c : Int) (r : Bool) (p d : Int) (w : World) :
    Calls Try.prog 14 #[blk k q l o c, .bool r, .int .i64 p, .int .i64 d] w fun e w' => e = .returned (blk k (pulO o c r p d) l (pulO o c r p d) (pulC o c r p d)) ∧ (w.alloc (.cells #[.int .i64 k, .bool (pulO o c r p d), .bool l, .bool (pulO o c r p d), .int .i64 (pulC o c r p d)] 23)).alloc (.cells #[.int .i64 k, .bool (pulO o c r p d), .bool l, .bool (pulO o c r p d), .int .i64 (pulC o c r p d)] 23) = w' := by
  cases o
  · cases r
    · go_enter Try.func14, Try.ntmps14
      go_wp2
      all_goals go_returns
      all_goals exact ⟨rfl, rfl⟩
    · by_cases h : p ≤ 0
      · go_enter Try.func14, Try.ntmps14
        go_wp2
        all_goals go_returns
        exact ret_blk (by simp [pulO, pulC, h]) rfl (by simp [pulO, pulC, h]) rfl
      · go_enter Try.func14, Try.ntmps14
        go_wp2
        all_goals go_returns
        exact ret_blk (by simp [pulO, pulC, show ¬ p ≤ 0 from by omega]) rfl (by simp [pulO, pulC, show ¬ p ≤ 0 from by omega]) rfl
  · by_cases h : p < wrap64 (c + d)
    · go_enter Try.func14, Try.ntmps14
      go_wp2
      all_goals go_returns
      exact ret_blk (by simp [pulO, pulC, mn_l h]) rfl (by simp [pulO, pulC, mn_l h]) (by simp [pulC, mn_l h])
    · by_cases h2 : p ≤ wrap64 (c + d)
      · go_enter Try.func14, Try.ntmps14
        go_wp2
        all_goals go_returns
        exact ret_blk (by simp only [pulO, pulC, mn_r' h]; simp; omega) rfl (by simp only [pulO, pulC, mn_r' h]; simp; omega) (by simp [pulC, mn_r' h])
      · go_enter Try.func14, Try.ntmps14
        go_wp2
        all_goals go_returns
        exact ret_blk (by simp only [pulO, pulC, mn_r' h]; simp; omega) rfl (by simp only [pulO, pulC, mn_r' h]; simp; omega) (by simp [pulC, mn_r' h])

def dnC (o : Bool) (c : Int) (r : Bool) (p : Int) : Int :=
  match r with
  | true => if wrap64 ((if o then c else p) - 1) < 0 then 0 else wrap64 ((if o then c else p) - 1)
  | false => if o then c else p
theorem dn_any (k : Int) (q l o : Bool) (c : Int) (r : Bool) (p : Int) (w : World) :
    Calls Try.prog 15 #[blk k q l o c, .bool r, .int .i64 p] w fun e w' => e = .returned (blk k (dnC o c r p == 0) l true (dnC o c r p)) ∧ (w.alloc (.cells #[.int .i64 k, .bool (dnC o c r p == 0), .bool l, .bool true, .int .i64 (dnC o c r p)] 23)).alloc (.cells #[.int .i64 k, .bool (dnC o c r p == 0), .bool l, .bool true, .int .i64 (dnC o c r p)] 23) = w' := by
  cases o
  · cases r
    · go_enter Try.func15, Try.ntmps15
      go_wp2
      all_goals go_returns
      all_goals exact ⟨rfl, rfl⟩
    · by_cases h : wrap64 (p - 1) < 0
      · go_enter Try.func15, Try.ntmps15
        go_wp2
        all_goals go_returns
        exact ret_blk (by simp [dnC, h]) rfl rfl (by simp [dnC, h])
      · go_enter Try.func15, Try.ntmps15
        go_wp2
        all_goals go_returns
        exact ret_blk (by simp only [dnC]; simp; rw [if_neg (by omega)]) rfl rfl (by simp only [dnC]; simp; omega)
  · cases r
    · go_enter Try.func15, Try.ntmps15
      go_wp2
      all_goals go_returns
      all_goals exact ⟨rfl, rfl⟩
    · by_cases h : wrap64 (c - 1) < 0
      · go_enter Try.func15, Try.ntmps15
        go_wp2
        all_goals go_returns
        exact ret_blk (by simp [dnC, h]) rfl rfl (by simp [dnC, h])
      · go_enter Try.func15, Try.ntmps15
        go_wp2
        all_goals go_returns
        exact ret_blk (by simp only [dnC]; simp; rw [if_neg (by omega)]) rfl rfl (by simp only [dnC]; simp; omega)
end Go.Proofs.Ythlkhlpilaglmaa
