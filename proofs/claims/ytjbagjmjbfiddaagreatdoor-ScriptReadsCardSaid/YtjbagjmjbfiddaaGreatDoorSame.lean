/-
  The scan that awake reads is the one that it writes out.
-/
import Derived.Test.YtjbagjmjbfiddaaGreatDoorScan
namespace Go.Proofs.YtjbagjmjbfiddaaGreatDoor
open Go.ChangeShapes Go.WideShapes Go.ChangeAt Go.RowKit

set_option maxHeartbeats 1000000 in
set_option maxRecDepth 100000 in
theorem ints_two (r q c : Nat) (w : World) (h0 : w.cell? ⟨r, 0, none⟩ = some (.int .i64 (-5))) (h1 : w.cell? ⟨r, 1, none⟩ = some (.int .i64 7)) (g0 : w.cell? ⟨q, 0, none⟩ = some (.int .i64 (-5))) (g1 : w.cell? ⟨q, 1, none⟩ = some (.int .i64 7)) :
    Calls Tryz.prog 31 #[.slice (some ⟨r, 0, none⟩) 2 c, .slice (some ⟨q, 0, none⟩) 2 2] w fun e w' => e = .returned (.bool true) ∧ ∃ n, w' = w.drewN n := by
  go_enter Tryz.func31, Tryz.ntmps31
  go_wp2_with fail
  refine wp_loop_rounds 3 ?_
  rw [rounds_succ]
  go_wp2_with fail
  go_quiet (fail)
  go_wp2_with fail
  rw [rounds_succ]
  go_wp2_with fail
  go_quiet (fail)
  go_wp2_with fail
  rw [rounds_succ]
  go_wp2_with fail
  go_ret
  exact ⟨rfl, _, rfl⟩

set_option maxHeartbeats 1000000 in
set_option maxRecDepth 100000 in
theorem scans_one (g cg r c l q : Nat) (w : World) (s0 : w.cell? ⟨g, 0, none⟩ = some (.slice (some ⟨r, 0, none⟩) 2 c)) (s1 : w.cell? ⟨g, 1, none⟩ = some (.int .i64 2))
    (t0 : w.cell? ⟨l, 0, none⟩ = some (.slice (some ⟨q, 0, none⟩) 2 2)) (t1 : w.cell? ⟨l, 1, none⟩ = some (.int .i64 2))
    (h0 : w.cell? ⟨r, 0, none⟩ = some (.int .i64 (-5))) (h1 : w.cell? ⟨r, 1, none⟩ = some (.int .i64 7)) (g0 : w.cell? ⟨q, 0, none⟩ = some (.int .i64 (-5))) (g1 : w.cell? ⟨q, 1, none⟩ = some (.int .i64 7)) :
    Calls Tryz.prog 15 #[.slice (some ⟨g, 0, none⟩) 1 cg, .slice (some ⟨l, 0, none⟩) 1 1] w fun e w' => e = .returned (.bool true) ∧ ∃ n, w' = w.drewN n := by
  go_enter Tryz.func15, Tryz.ntmps15
  go_wp2_with fail
  refine wp_loop_rounds 2 ?_
  rw [rounds_succ]
  go_wp2_with fail
  go_quiet ((go_at_call 31; exact Calls.quiet_of (ints_two r q c _ h0 h1 g0 g1)))
  go_wp2_with fail
  rw [rounds_succ]
  go_wp2_with fail
  go_ret
  exact ⟨rfl, _, rfl⟩
end Go.Proofs.YtjbagjmjbfiddaaGreatDoor
