/-
  What every program answers that is one: the schedule's first answers are as they should be.
-/
import Derived.Test.YthibbhkjfopjcabWhich
import Derived.Test.YthibbhkjfopjcabSame
namespace Go.Proofs.Ythibbhkjfopjcab
open Go.ChangeShapes Go.WideShapes Go.ChangeAt Go.RowKit Go.Sort Go.Lib

theorem clip_low (w : World) : Calls Try.prog 11 #[.int .i64 (-1)] w fun e w' => e = .returned (.int .i64 0) ∧ w = w' := by
  go_enter Try.func11, Try.ntmps11
  go_wp2
  go_ret
  exact ⟨rfl, rfl⟩

theorem due_yes (w : World) : Calls Try.prog 8 #[.int .i64 5, .int .i64 4, .int .i64 5] w fun en w' => en = .returned (.bool true) ∧ ∃ n, w' = w.drewN n := by
  have h := due_any 5 4 5 (by omega) w
  have e : dueB 5 4 5 = true := by decide
  rw [e] at h
  exact h
theorem due_no (w : World) : Calls Try.prog 8 #[.int .i64 5, .int .i64 5, .int .i64 9] w fun en w' => en = .returned (.bool false) ∧ ∃ n, w' = w.drewN n := by
  have h := due_any 5 5 9 (by omega) w
  have e : dueB 5 5 9 = false := by decide
  rw [e] at h
  exact h

theorem ints_lit {w : World} {g off : Nat} {xs : List Int} (h : ∀ j, j < xs.length → w.cell? ⟨g, off + j, none⟩ = some (.int .i64 (xs.getD j 0))) : Ints w (some ⟨g, off, none⟩) xs.length xs :=
  ⟨rfl, fun _ => ⟨g, off, rfl, h⟩⟩

def jobs3 : List (Int × Int × Int) := [(0, 2, 5), (0, 3, 0), (0, 1, 5)]
theorem sorted3 : (insertionSort (ltOf (cf (N := 2) jobs3)) (gath (N := 2) jobs3 5 6 3).toArray 0 (gath (N := 2) jobs3 5 6 3).length).toList.map ixV = ([1, 0, 2] : List Int).map (Value.int .i64) := by
  kernel_rfl
theorem len3 : (gath (N := 2) jobs3 5 6 3).length = 3 := by kernel_rfl
theorem which3 (jb cap : Nat) (w : World) (hjb : jb < w.heap.size) (hjs : JobsAt w jb 0 jobs3) :
    Calls Try.prog 7 #[.slice (some ⟨jb, 0, none⟩) 3 cap, .int .i64 5, .int .i64 6] w fun e w' => ∃ A c, e = .returned (.slice A 3 c) ∧ Ints w' A 3 [1, 0, 2] ∧ Below w.heap.size w w' := by
  have h := which_some (N := 2) jobs3 rfl (by omega) jb 0 cap 5 6 (by omega) w hjb hjs
  refine h.mono ?_
  rintro e w' ⟨v, rfl, ho, hb⟩
  rw [sorted3, len3] at ho
  obtain ⟨h1, ⟨_, h0⟩ | ⟨g, c, cur, rfl, h2⟩⟩ := id ho
  · omega
  · exact ⟨some ⟨g, 0, none⟩, c, rfl, Ints.of_own ho, hb⟩

theorem cell_of {w : World} {g i : Nat} {c : Array Value} {t : TypeId} {x : Value} (h : w.heap[g]? = some (.cells c t)) (hx : c[i]? = some x) : w.cell? ⟨g, i, none⟩ = some x := by
  unfold World.cell?
  simp only [h]
  exact hx
def cells3 : Array Value := #[.int .i64 0, .int .i64 2, .int .i64 5, .int .i64 0, .int .i64 3, .int .i64 0, .int .i64 0, .int .i64 1, .int .i64 5]
theorem jobs3_at (w : World) (t : TypeId) (k : Nat) : JobsAt ((w.alloc (.cells cells3 t)).drewN k) w.heap.size 0 jobs3 := by
  have h : ((w.alloc (.cells cells3 t)).drewN k).heap[w.heap.size]? = some (.cells cells3 t) := heap_new (w := w) (o := .cells cells3 t) (g := w.heap.size) rfl
  intro i j hij
  match i, hij with
  | 0, hij => cases hij; exact ⟨cell_of h rfl, cell_of h rfl, cell_of h rfl⟩
  | 1, hij => cases hij; exact ⟨cell_of h rfl, cell_of h rfl, cell_of h rfl⟩
  | 2, hij => cases hij; exact ⟨cell_of h rfl, cell_of h rfl, cell_of h rfl⟩
  | n + 3, hij => simp [jobs3] at hij
def want3 : Array Value := #[.int .i64 1, .int .i64 0, .int .i64 2]
theorem want3_at (w : World) (t : TypeId) : Ints (w.alloc (.cells want3 t)) (some ⟨w.heap.size, 0, none⟩) 3 [1, 0, 2] := by
  have h : (w.alloc (.cells want3 t)).heap[w.heap.size]? = some (.cells want3 t) := heap_new (w := w) (o := .cells want3 t) (g := w.heap.size) rfl
  refine ints_lit fun j hj => ?_
  match j, hj with
  | 0, _ => exact cell_of h rfl
  | 1, _ => exact cell_of h rfl
  | 2, _ => exact cell_of h rfl

set_option maxRecDepth 100000 in
theorem awake_any (w : World) : Calls Try.prog 5 #[] w fun e w' => e = .returned (.bool true) ∧ Below w.heap.size w w' := by
  go_enter Try.func5, Try.ntmps5
  go_wp2_with fail
  refine (due_yes _).mono ?_
  rintro e w1 ⟨rfl, q1, rfl⟩
  go_wp2_with fail
  refine (due_no _).mono ?_
  rintro e w1 ⟨rfl, q2, rfl⟩
  go_wp2_with fail
  refine (which3 _ _ _ ?_ ?_).mono ?_
  case refine_1 => simp
  case refine_2 => exact jobs3_at w 29 _
  rintro e w1 ⟨A, c, rfl, hi, hb⟩
  have hb1 : Below w.heap.size w w1 := by
    have h0 := ((RowKit.Below.refl _ w).alloc (Nat.le_refl _) (.cells cells3 29))
    have h1 := hb.mono (show w.heap.size ≤ _ by simp)
    exact ⟨h1.os.trans h0.os, h1.tape.trans h0.tape, h1.output.trans h0.output, Nat.le_trans h0.size h1.size, fun g hg => (h1.block g hg).trans (h0.block g hg)⟩
  have HI := Lib.hid hi
  have HB := Lib.hid hb1
  clear hi hb hb1
  go_wp2_with fail
  refine (same_any _ _ 3 3 _ _ [1, 0, 2] [1, 0, 2] _ (by omega) (by omega) ?_ ?_).mono ?_
  case refine_1 => exact HI.out.keep ((RowKit.Below.refl _ _).alloc (Nat.le_refl _) _)
  case refine_2 => exact want3_at w1 3
  rintro e w2 ⟨rfl, q3, rfl⟩
  go_wp2_with (refine (clip_low _).mono ?_; rintro e w3 ⟨rfl, rfl⟩)
  go_ret
  refine ⟨rfl, ?_⟩
  have h0 := HB.out.alloc HB.out.size (.cells want3 3)
  exact ⟨h0.os, h0.tape, h0.output, h0.size, h0.block⟩
end Go.Proofs.Ythibbhkjfopjcab
