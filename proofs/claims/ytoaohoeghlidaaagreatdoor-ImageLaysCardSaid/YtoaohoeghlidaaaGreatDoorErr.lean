/-
  Errors: New, Wrong, Code.
-/
import Derived.Test.YtoaohoeghlidaaaGreatDoorWriter
import Derived.Test.YtoaohoeghlidaaaGreatDoorAs
namespace Go.Proofs.YtoaohoeghlidaaaGreatDoor
open Go.ChangeShapes Go.WideShapes Go.ChangeAt Go.RowKit

theorem below_drew {B : Nat} {a w : World} (h : Below B a w) (n : Nat) : Below B a (w.drewN n) := ⟨h.os, h.tape, h.output, h.size, h.block⟩
/-- what the listed variable holds -/
structure Env (W : World) : Prop where
  et : W.cell? ⟨0, 0, none⟩ = some (.iface 176 (.agg #[.pointer (some ⟨1, 34, none⟩)]))
theorem Env.size {W : World} (h : Env W) : 0 < W.heap.size := World.block_lt_of_cell? _ _ h.et
theorem Env.keep {W W' : World} (h : Env W) {B : Nat} (hb : Below B W W') (hB : 0 < B) : Env W' := ⟨(World.cell?_of_block (a := ⟨0, 0, none⟩) (hb.block 0 hB)).trans h.et⟩
theorem Env.same {W W' : World} (h : Env W) (hk : W'.heap[0]? = W.heap[0]?) : Env W' := ⟨(World.cell?_of_block (a := ⟨0, 0, none⟩) hk).trans h.et⟩

set_option maxRecDepth 100000 in
theorem new_any (c a : Int) (w : World) : Calls Tryz.prog 23 #[.int .i64 c, .int .i64 a] w fun e w' => e = .returned (.iface 122 (.pointer (some ⟨w.heap.size, 0, none⟩))) ∧ w' = w.alloc (.cells #[.int .i64 c, .int .i64 a, .nilIface] 124) := by
  go_enter Tryz.func23, Tryz.ntmps23
  go_wp2_with fail
  go_ret
  exact ⟨rfl, rfl⟩

set_option maxHeartbeats 800000 in
set_option maxRecDepth 100000 in
theorem wrong_any (c a : Int) (g : Nat) (w : World) (hE : Env w) (hg : w.heap[g]? = some (.cells #[.int .i64 c, .int .i64 a, .nilIface] 124 (0, 0))) :
    Calls Tryz.prog 32 #[.iface 122 (.pointer (some ⟨g, 0, none⟩))] w fun e w' => e = .returned (.tuple #[.int .i64 c, .int .i64 a]) ∧ Below w.heap.size w w' := by
  have hlt := heap_lt hg
  have h9 : 0 < w.heap.size := hE.size
  have het : (w.alloc (.cells #[.pointer none] 122)).cell? ⟨0, 0, none⟩ = some (.iface 176 (.agg #[.pointer (some ⟨1, 34, none⟩)])) := by rw [World.cell?_alloc_lt _ _ ⟨0, 0, none⟩ (by simp; omega)]; exact hE.et
  have ht : (w.alloc (.cells #[.pointer none] 122)).cell? ⟨w.heap.size, 0, none⟩ = some (.pointer none) := by simp
  have hf : (w.alloc (.cells #[.pointer none] 122)).frozen? ⟨w.heap.size, 0, none⟩ = false := by simp
  have hO : ∀ w' : World, w'.heap[g]? = w.heap[g]? → w'.cell? ⟨g, 0, none⟩ = some (.int .i64 c) ∧ w'.cell? ⟨g, 1, none⟩ = some (.int .i64 a) := fun w' h => by
    rw [hg] at h
    rw [Lib.cell_of_heap h, Lib.cell_of_heap h]
    exact ⟨rfl, rfl⟩
  have HO := Lib.hid hO
  clear hO
  go_enter Tryz.func32, Tryz.ntmps32
  go_wp2_with (go_at_call 69; refine (as_hit ⟨g, 0, none⟩ ⟨w.heap.size, 0, none⟩ _ _ het ht hf).mono ?_)
  rintro e w' ⟨rfl, rfl⟩
  have hb : Below w.heap.size w (((((w.alloc (.cells #[.pointer none] 122)).alloc (.cells #[.pointer (some ⟨w.heap.size, 0, none⟩)] 130)).alloc (.cells #[.pointer (some ⟨1, 130, none⟩), .pointer (some ⟨(w.alloc (.cells #[.pointer none] 122)).heap.size, 0, none⟩), .int .u64 150] 156)).alloc (.cells #[.pointer (some ⟨1, 130, none⟩), .pointer (some ⟨(w.alloc (.cells #[.pointer none] 122)).heap.size, 0, none⟩), .int .u64 150] 156)).alloc (.cells #[.pointer (some ⟨g, 0, none⟩)] 122)) :=
    (((((Below.refl _ w).alloc (Nat.le_refl _) _).alloc (by simp) _).alloc (by simp; omega) _).alloc (by simp; omega) _).alloc (by simp; omega) _
  have hc : (((((w.alloc (.cells #[.pointer none] 122)).alloc (.cells #[.pointer (some ⟨w.heap.size, 0, none⟩)] 130)).alloc (.cells #[.pointer (some ⟨1, 130, none⟩), .pointer (some ⟨(w.alloc (.cells #[.pointer none] 122)).heap.size, 0, none⟩), .int .u64 150] 156)).alloc (.cells #[.pointer (some ⟨1, 130, none⟩), .pointer (some ⟨(w.alloc (.cells #[.pointer none] 122)).heap.size, 0, none⟩), .int .u64 150] 156)).alloc (.cells #[.pointer (some ⟨g, 0, none⟩)] 122)).cell? ⟨w.heap.size, 0, none⟩ = some (.pointer none) := by
    rw [World.cell?_alloc_lt _ _ _ (by simp; omega), World.cell?_alloc_lt _ _ _ (by simp; omega), World.cell?_alloc_lt _ _ _ (by simp; omega), World.cell?_alloc_lt _ _ _ (by simp)]
    exact ht
  generalize (((((w.alloc (.cells #[.pointer none] 122)).alloc (.cells #[.pointer (some ⟨w.heap.size, 0, none⟩)] 130)).alloc (.cells #[.pointer (some ⟨1, 130, none⟩), .pointer (some ⟨(w.alloc (.cells #[.pointer none] 122)).heap.size, 0, none⟩), .int .u64 150] 156)).alloc (.cells #[.pointer (some ⟨1, 130, none⟩), .pointer (some ⟨(w.alloc (.cells #[.pointer none] 122)).heap.size, 0, none⟩), .int .u64 150] 156)).alloc (.cells #[.pointer (some ⟨g, 0, none⟩)] 122)) = W5 at *
  have hb6 := hb.setCell (p := ⟨w.heap.size, 0, none⟩) (Nat.le_refl _) (.pointer (some ⟨g, 0, none⟩))
  have hc6 : (W5.setCell ⟨w.heap.size, 0, none⟩ (.pointer (some ⟨g, 0, none⟩))).cell? ⟨w.heap.size, 0, none⟩ = some (.pointer (some ⟨g, 0, none⟩)) := World.cell?_setCell_same _ _ _ hc
  generalize W5.setCell ⟨w.heap.size, 0, none⟩ (.pointer (some ⟨g, 0, none⟩)) = W6 at *
  obtain ⟨o0, o1⟩ := HO.out W6 (hb6.block g hlt)
  clear hb hc ht hf het
  have HB := Lib.hid hb6
  clear hb6
  go_wp2_with fail
  go_quiet (fail)
  go_wp2_with fail
  go_ret2
  exact ⟨rfl, below_drew HB.out _⟩


theorem wrong_nil (w : World) : Calls Tryz.prog 32 #[.nilIface] w fun e w' => e = .returned (.tuple #[.int .i64 0, .int .i64 0]) ∧ w' = w := by
  go_enter Tryz.func32, Tryz.ntmps32
  go_wp2_with fail
  go_ret2
  exact ⟨rfl, rfl⟩
theorem code_nil (w : World) : Calls Tryz.prog 12 #[.nilIface] w fun e w' => e = .returned (.int .i64 0) ∧ Below w.heap.size w w' := by
  go_enter Tryz.func12, Tryz.ntmps12
  go_wp2_with (go_at_call 32; refine (wrong_nil _).mono ?_; rintro e w' ⟨rfl, rfl⟩)
  go_ret
  exact ⟨rfl, Below.refl _ _⟩
theorem code_err (c : Int) (g : Nat) (w : World) (hE : Env w) (hg : w.heap[g]? = some (.cells #[.int .i64 c, .int .i64 0, .nilIface] 124 (0, 0))) : Calls Tryz.prog 12 #[.iface 122 (.pointer (some ⟨g, 0, none⟩))] w fun e w' => e = .returned (.int .i64 c) ∧ Below w.heap.size w w' := by
  have hw := wrong_any c 0 g w hE hg
  clear hg hE
  go_enter Tryz.func12, Tryz.ntmps12
  go_wp2_with (go_at_call 32; refine hw.mono ?_)
  first | rintro e w1 rfl hb | rintro e w1 ⟨rfl, hb⟩
  have HB := Lib.hid hb
  clear hb hw
  go_wp2_with fail
  go_ret
  exact ⟨rfl, HB.out⟩
end Go.Proofs.YtoaohoeghlidaaaGreatDoor
