/-
  BlockTells: the walk: what Step answers of any block is what the document's own Step answers.
-/
import Derived.Test.YthlkhlpilaglmaaAny
import Derived.Test.YthlkhlpilaglmaaAwake
import Derived.Test.YthlkhlpilaglmaaKit
import Derived.Deep.RegionHeld3
import Derived.Deep.DrawnRows
import Derived.RegionTactic
namespace Go.Proofs.Ythlkhlpilaglmaa
open Go.ChangeShapes Go.WideShapes Go.ChangeAt Go.RowKit
attribute [local go_sem ↓] Go.wp_at_zero Go.wp_at_succ

theorem keep6 {W w w1 : World} {g : Nat} {v0 v1 v2 v3 v4 : Value} (h : w.cell? ⟨g, 0, none⟩ = some v0 ∧ w.cell? ⟨g, 1, none⟩ = some v1 ∧ w.cell? ⟨g, 2, none⟩ = some v2 ∧ w.cell? ⟨g, 3, none⟩ = some v3 ∧ w.cell? ⟨g, 4, none⟩ = some v4 ∧ Below W.heap.size W w) (hb : Below w.heap.size w w1) :
    w1.cell? ⟨g, 0, none⟩ = some v0 ∧ w1.cell? ⟨g, 1, none⟩ = some v1 ∧ w1.cell? ⟨g, 2, none⟩ = some v2 ∧ w1.cell? ⟨g, 3, none⟩ = some v3 ∧ w1.cell? ⟨g, 4, none⟩ = some v4 ∧ Below W.heap.size W w1 :=
  ⟨keep1 hb h.1, keep1 hb h.2.1, keep1 hb h.2.2.1, keep1 hb h.2.2.2.1, keep1 hb h.2.2.2.2.1, keepB h.2.2.2.2.2 hb⟩
theorem new_b (k : Int) (w : World) : Calls Try.prog 9 #[.int .i64 k] w fun e w' => e = .returned (blk k false false false 0) ∧ Below w.heap.size w w' :=
  (new_ k w).mono fun _ _ ⟨h, hw⟩ => ⟨h, hw ▸ (Below.refl _ w).alloc (Nat.le_refl _) _⟩

set_option maxRecDepth 100000 in
set_option maxHeartbeats 4000000 in
theorem tells_walk (k : Int) (q l o : Bool) (c : Int) (i : Bool) (p d : Int) (w : World) :
    Calls Try.prog 3 #[blk k q l o c, .bool i, .int .i64 p, .int .i64 d] w fun e w' => e = .returned (.bool true) ∧ Below w.heap.size w w' := by
  have h0 : Below w.heap.size w (w.alloc (.cells #[.int .i64 k, .bool q, .bool l, .bool o, .int .i64 c] 23)) := (Below.refl _ w).alloc (Nat.le_refl _) _
  have h1 := h0.drew
  go_enter Try.func3, Try.ntmps3
  go_wp2_with fail
  go_region_held3 (fun w' => (w'.cell? ⟨w.heap.size, 0, none⟩ = some (.int .i64 k) ∧ w'.cell? ⟨w.heap.size, 1, none⟩ = some (.bool q) ∧ w'.cell? ⟨w.heap.size, 2, none⟩ = some (.bool l) ∧ w'.cell? ⟨w.heap.size, 3, none⟩ = some (.bool o) ∧ w'.cell? ⟨w.heap.size, 4, none⟩ = some (.int .i64 c) ∧ Below w.heap.size w w')) (first | (exact keep6 (by assumption) hb) | go_keep)
    (first | ((go_at_call 7; refine (step_any _ _ _ _ _ _ _ _ _).mono ?_; rintro e w1 ⟨rfl, hb⟩)) | ((go_at_call 8; refine (rstep_any _ _ _ _ _ _ _ _ _).mono ?_; rintro e w1 ⟨rfl, hb⟩)) | ((go_at_call 9; refine (new_b _ _).mono ?_; rintro e w1 ⟨rfl, hb⟩)) | ((go_at_call 10; refine (awake_ _).mono ?_; rintro e w1 ⟨rfl, hb⟩)))
  all_goals go_wp2_with fail
  all_goals go_ret

  all_goals (rename_i hH; exact ⟨rfl, hH.2.2.2.2.2⟩)
end Go.Proofs.Ythlkhlpilaglmaa
