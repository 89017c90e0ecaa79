/-
  Package block: the sample that every program answers that is one.
-/
import Derived.Test.YthlkhlpilaglmaaStep
import Derived.Test.YthlkhlpilaglmaaKit
import Derived.Lib.Hide
namespace Go.Proofs.Ythlkhlpilaglmaa
open Go.ChangeShapes Go.WideShapes Go.ChangeAt Go.RowKit

/-- a block that is known whole stands so behind a call that makes memory alone -/
theorem box5 {B g : Nat} {w w1 : World} (hb : Below B w w1) (hg : g < B) {v0 v1 v2 v3 v4 : Value} {t : TypeId} (h : w.heap[g]? = some (.cells #[v0, v1, v2, v3, v4] t (0, 0))) :
    (w1.cell? ⟨g, 0, none⟩ = some v0 ∧ w1.cell? ⟨g, 1, none⟩ = some v1 ∧ w1.cell? ⟨g, 2, none⟩ = some v2 ∧ w1.cell? ⟨g, 3, none⟩ = some v3 ∧ w1.cell? ⟨g, 4, none⟩ = some v4) ∧
    (w1.frozen? ⟨g, 0, none⟩ = false ∧ w1.frozen? ⟨g, 1, none⟩ = false ∧ w1.frozen? ⟨g, 2, none⟩ = false ∧ w1.frozen? ⟨g, 3, none⟩ = false ∧ w1.frozen? ⟨g, 4, none⟩ = false) := by
  have h1 : w1.heap[g]? = some (.cells #[v0, v1, v2, v3, v4] t (0, 0)) := (hb.block g hg).trans h
  simp [World.cell?, World.frozen?, h1]


theorem set5 {w : World} {g : Nat} {a0 a1 a2 a3 a4 v0 v1 v2 v3 v4 : Value} {t : TypeId} (h : w.heap[g]? = some (.cells #[a0, a1, a2, a3, a4] t (0, 0))) :
    (((((w.setCell ⟨g, 0, none⟩ v0).setCell ⟨g, 1, none⟩ v1).setCell ⟨g, 2, none⟩ v2).setCell ⟨g, 3, none⟩ v3).setCell ⟨g, 4, none⟩ v4).heap[g]? = some (.cells #[v0, v1, v2, v3, v4] t (0, 0)) := by
  simp [World.setCell, Array.getElem?_modify, h]
theorem size5 {w : World} {p0 p1 p2 p3 p4 : Addr} {v0 v1 v2 v3 v4 : Value} : (((((w.setCell p0 v0).setCell p1 v1).setCell p2 v2).setCell p3 v3).setCell p4 v4).heap.size = w.heap.size := by
  simp [World.setCell]

theorem cells5 {w : World} {g : Nat} {a0 a1 a2 a3 a4 : Value} {t : TypeId} (h : w.heap[g]? = some (.cells #[a0, a1, a2, a3, a4] t (0, 0))) :
    w.cell? ⟨g, 0, none⟩ = some a0 ∧ w.cell? ⟨g, 1, none⟩ = some a1 ∧ w.cell? ⟨g, 2, none⟩ = some a2 ∧ w.cell? ⟨g, 3, none⟩ = some a3 ∧ w.cell? ⟨g, 4, none⟩ = some a4 := by
  simp [World.cell?, h]

theorem new_ (k : Int) (w : World) : Calls Try.prog 9 #[.int .i64 k] w fun e w' => e = .returned (blk k false false false 0) ∧ w.alloc (.cells #[.int .i64 k, .bool false, .bool false, .bool false, .int .i64 0] 23) = w' := by
  go_enter Try.func9, Try.ntmps9
  go_wp2
  go_returns
  exact ⟨rfl, rfl⟩
theorem aw_a (w : World) : Calls Try.prog 7 #[blk 1 false false false 0, .bool true, .int .i64 3, .int .i64 2] w fun e w' => e = .returned (blk 1 false true true 0) ∧ Below w.heap.size w w' :=
  (step1 false false false 0 true 3 2 w).mono fun _ _ h => h
theorem aw_b (w : World) : Calls Try.prog 7 #[blk 1 false true true 0, .bool true, .int .i64 3, .int .i64 2] w fun e w' => e = .returned (blk 1 false true true 2) ∧ Below w.heap.size w w' :=
  (step1 false true true 0 true 3 2 w).mono fun _ _ ⟨h, hb⟩ => ⟨h.trans (by simp [onT, clamp, mn, IntWalk.wrap64_in]), hb⟩
theorem aw_c (w : World) : Calls Try.prog 7 #[blk 1 false true true 2, .bool true, .int .i64 3, .int .i64 2] w fun e w' => e = .returned (blk 1 true true true 3) ∧ Below w.heap.size w w' :=
  (step1 false true true 2 true 3 2 w).mono fun _ _ ⟨h, hb⟩ => ⟨h.trans (by simp [onT, clamp, mn, IntWalk.wrap64_in]), hb⟩

set_option maxRecDepth 100000 in
theorem awake_ (w : World) : Calls Try.prog 10 #[] w fun e w' => e = .returned (.bool true) ∧ Below w.heap.size w w' := by
  go_enter Try.func10, Try.ntmps10
  go_wp2_with fail
  refine (new_ _ _).mono ?_; rintro e w' ⟨rfl, rfl⟩
  go_wp2_with fail
  refine (aw_a _).mono ?_; rintro e w1 ⟨rfl, hb⟩
  have h1 := (hb.block (w.heap.size + 1) (by simp)).trans (heap_new (by simp))
  have hz := hb.size
  obtain ⟨⟨c0, c1, c2, c3, c4⟩, f0, f1, f2, f3, f4⟩ := box5 hb (g := w.heap.size + 1) (by simp) (heap_new (by simp))
  simp at hz
  have H1 := Lib.hid h1
  have HB := Lib.hid hb
  clear h1 hb
  go_wp2_with fail
  clear c0 c1 c2 c3 c4 f0 f1 f2 f3 f4
  have h2 := set5 H1.out (v0 := .int .i64 1) (v1 := .bool false) (v2 := .bool true) (v3 := .bool true) (v4 := .int .i64 0)
  have hz2 := size5 (w := w1) (p0 := ⟨w.heap.size + 1, 0, none⟩) (p1 := ⟨w.heap.size + 1, 1, none⟩) (p2 := ⟨w.heap.size + 1, 2, none⟩) (p3 := ⟨w.heap.size + 1, 3, none⟩) (p4 := ⟨w.heap.size + 1, 4, none⟩) (v0 := .int .i64 1) (v1 := .bool false) (v2 := .bool true) (v3 := .bool true) (v4 := .int .i64 0)
  have hbw : Below w.heap.size w _ := (((((((Below.refl _ w).alloc (Nat.le_refl _) _).alloc (by simp) _).trans (HB.out.mono (by simp; omega))).setCell (p := ⟨w.heap.size + 1, 0, none⟩) (by simp) (.int .i64 1)).setCell (p := ⟨w.heap.size + 1, 1, none⟩) (by simp) (.bool false)).setCell (p := ⟨w.heap.size + 1, 2, none⟩) (by simp) (.bool true)).setCell (p := ⟨w.heap.size + 1, 3, none⟩) (by simp) (.bool true) |>.setCell (p := ⟨w.heap.size + 1, 4, none⟩) (by simp) (.int .i64 0)
  generalize (((((w1.setCell ⟨w.heap.size + 1, 0, none⟩ (.int .i64 1)).setCell ⟨w.heap.size + 1, 1, none⟩ (.bool false)).setCell ⟨w.heap.size + 1, 2, none⟩ (.bool true)).setCell ⟨w.heap.size + 1, 3, none⟩ (.bool true)).setCell ⟨w.heap.size + 1, 4, none⟩ (.int .i64 0)) = wa at *
  clear HB H1
  have H2 := Lib.hid h2
  have HW := Lib.hid hbw
  clear h2 hbw
  have hza : w.heap.size + 1 < wa.heap.size := by omega
  clear hz2 hz
  refine (aw_b _).mono ?_; rintro e w2 ⟨rfl, hb⟩
  have hz := hb.size
  have HB := Lib.hid hb
  clear hb
  go_wp2_with fail
  refine (aw_c _).mono ?_; rintro e w3 ⟨rfl, hb⟩
  have hz3 := hb.size
  simp at hz3
  have HC := Lib.hid hb
  clear hb
  have hB := box5 HB.out (g := w.heap.size + 1) hza H2.out
  have h3 := fun o => ((Below.refl _ w3).alloc (Nat.le_refl _) o)
  have b1 : ∀ o, (w3.alloc o).heap[w.heap.size + 1]? = some (.cells #[.int .i64 1, .bool false, .bool true, .bool true, .int .i64 0] 23 (0, 0)) := fun o =>
    (heap_old (by omega)).trans ((HC.out.block _ (by simp; omega)).trans ((heap_old (by omega)).trans ((HB.out.block _ hza).trans H2.out)))
  have b2 : ∀ o, (w3.alloc o).heap[w2.heap.size]? = some (.cells #[.int .i64 1, .bool false, .bool true, .bool true, .int .i64 2] 23 (0, 0)) := fun o =>
    (heap_old (by omega)).trans ((HC.out.block _ (by simp)).trans (heap_new rfl))
  have d0 := fun o => (cells5 (b1 o))
  have d1 := fun o => (cells5 (b2 o))
  have k0 := fun o => (d0 o).1
  have k1 := fun o => (d0 o).2.1
  have k2 := fun o => (d0 o).2.2.1
  have k3 := fun o => (d0 o).2.2.2.1
  have k4 := fun o => (d0 o).2.2.2.2
  have l1 := fun o => (d1 o).2.1
  have l4 := fun o => (d1 o).2.2.2.2
  clear hB h3 b1 b2 d0 d1
  go_wp2_with fail
  go_ret
  refine ⟨rfl, ?_⟩
  exact ((HW.out.trans ((HB.out.mono (by omega)).alloc (by omega) _)).trans (HC.out.mono (by simp; omega))).alloc (by omega) _
end Go.Proofs.Ythlkhlpilaglmaa
