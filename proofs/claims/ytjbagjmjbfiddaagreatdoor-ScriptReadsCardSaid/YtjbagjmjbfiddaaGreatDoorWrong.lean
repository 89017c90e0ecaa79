/-
  Parse at awake's second text; awake.
-/
import Derived.Test.YtjbagjmjbfiddaaGreatDoorParse
namespace Go.Proofs.YtjbagjmjbfiddaaGreatDoor
open Go.ChangeShapes Go.WideShapes Go.ChangeAt Go.RowKit

set_option maxHeartbeats 1000000 in
set_option maxRecDepth 100000 in
theorem parse_two (w : World) (hE : Env w) : Calls Tryz.prog 12 #[.string text2] w fun e w' => ∃ g, e = .returned (.tuple #[.string ⟨#[]⟩, .slice none 0 0, .iface 68 (.pointer (some ⟨g, 0, none⟩))]) ∧
    w'.heap[g]? = some (.cells #[.int .i64 23, .int .i64 2, .nilIface] 72 (0, 0)) ∧ Below w.heap.size w w' := by
  have h9 := hE.size
  have HE := Lib.hid hE
  clear hE
  go_enter Tryz.func12, Tryz.ntmps12
  go_wp2_with fail
  have hbox : (w.alloc (.cells #[.pointer none, .slice none 0 0] 54)).heap[w.heap.size]? = some (.cells #[.pointer none, .slice none 0 0] 54 (0, 0)) := heap_alloc_new w _
  have hb0 : Below w.heap.size w (w.alloc (.cells #[.pointer none, .slice none 0 0] 54)) := (Below.refl _ w).alloc (Nat.le_refl _) _
  have hs0 : (w.alloc (.cells #[.pointer none, .slice none 0 0] 54)).heap.size = w.heap.size + 1 := by simp
  generalize w.alloc (.cells #[.pointer none, .slice none 0 0] 54) = W0 at *
  generalize hA : w.heap.size = A at *
  have HBX := Lib.hid hbox
  have HB0 := Lib.hid hb0
  have HS0 := Lib.hid hs0
  clear hbox hb0 hs0
  refine wp_loop_rounds 2 ?_
  rw [rounds_succ]
  go_wp2_with (go_at_call 23; refine (cut_any text2 src3 line2 true cut2 (by decide) W0 (HE.out.keep HB0.out h9)).mono ?_)
  rintro e W1 ⟨rfl, n1, hW1⟩
  have hbx1 : W1.heap[A]? = some (.cells #[.pointer none, .slice none 0 0] 54 (0, 0)) := by rw [hW1]; exact HBX.out
  have hb1 : Below A w W1 := by rw [hW1]; exact below_drew HB0.out n1
  have hs1 : W1.heap.size = A + 1 := by rw [hW1]; exact HS0.out
  have HBX1 := Lib.hid hbx1
  have HB1 := Lib.hid hb1
  have HS1 := Lib.hid hs1
  clear hbx1 hb1 hs1 hW1
  go_wp2_with (go_at_call 24; refine (srcs3 W1).mono ?_)
  rintro e W2 ⟨rfl, hb2⟩
  have hbx2 := (hb2.block A (by rw [HS1.out]; omega)).trans HBX1.out
  have hbb2 := HB1.out.trans (hb2.mono (by rw [HS1.out]; omega))
  have hs2 : A + 1 ≤ W2.heap.size := by have := hb2.size; rw [HS1.out] at this; exact this
  have HBX2 := Lib.hid hbx2
  have HB2 := Lib.hid hbb2
  clear hb2 hbx2 hbb2
  go_wp2_with (go_at_call 25; refine (write_fresh A A ⟨#[97]⟩ W2 (Nat.le_refl _) HBX2.out (by decide) (by omega)).mono ?_)
  rintro e W3 ⟨rfl, v1, hbl3, hb3, hk3⟩
  have hbb3 := HB2.out.trans hb3
  have hA3 : A ≤ W3.heap.size := Nat.le_of_lt (heap_lt hbl3.box)
  have HB3 := Lib.hid hbb3
  clear hbl3 hb3 hbb3 hk3
  go_wp2_with fail
  rw [rounds_succ]
  go_wp2_with (go_at_call 23; refine (cut_any line2 line2 ⟨#[]⟩ false cut2a (by decide) W3 (HE.out.keep HB3.out h9)).mono ?_)
  rintro e W4 ⟨rfl, n4, hW4⟩
  have hb4 : Below A w W4 := by rw [hW4]; exact below_drew HB3.out n4
  have hA4 : A ≤ W4.heap.size := by rw [hW4]; exact hA3
  have HB4 := Lib.hid hb4
  clear hb4 hW4
  go_wp2_with (first | (go_at_call 24; refine (source_miss line2 (by kernel_rfl) W4).mono ?_; rintro e W4 ⟨rfl, rfl⟩) | (go_at_call 26; refine (scan_two _ (HE.out.keep HB4.out h9)).mono ?_))
  rintro e W5 ⟨rfl, hb5⟩
  have hbb5 : Below A w W5 := HB4.out.trans (hb5.mono hA4)
  have hA5 : A ≤ W5.heap.size := Nat.le_trans hA4 hb5.size
  have HB5 := Lib.hid hbb5
  clear hb5 hbb5
  go_wp2_with (go_at_call 18; refine (new_any 23 2 _).mono ?_)
  rintro e W6 ⟨rfl, hW6⟩
  have hx6 : W6.heap[(W5.alloc (.cells #[.slice none 0 0, .int .i64 0] 45)).heap.size]? = some (.cells #[.int .i64 23, .int .i64 2, .nilIface] 72 (0, 0)) := by rw [hW6]; exact heap_alloc_new _ _
  have hb6 : Below A w W6 := by rw [hW6]; exact (HB5.out.alloc hA5 _).alloc (by simp; omega) _
  have HX6 := Lib.hid hx6
  have HB6 := Lib.hid hb6
  clear hx6 hb6 hW6
  go_wp2_with fail
  go_ret3
  exact ⟨_, rfl, by have := HX6.out; rw [size_alloc1] at this; exact this, by rw [hA]; exact HB6.out⟩
theorem hexes1 : hexOf ⟨#[15, 122]⟩ = ⟨#[48, 102, 55, 97]⟩ := by unfold hexOf; simp only [ByteArray.toList_eq]; decide
set_option maxHeartbeats 1000000 in
set_option maxRecDepth 100000 in
theorem awake_any (w : World) (hE : Env w) : Calls Tryz.prog 8 #[] w fun e w' => e = .returned (.bool true) ∧ Below w.heap.size w w' := by
  have h9 := hE.size
  have HE := Lib.hid hE
  clear hE
  go_enter Tryz.func8, Tryz.ntmps8
  go_wp2_with (go_at_call 12; refine (parse_one w HE.out).mono ?_)
  rintro e W1 ⟨g, cg, r, c, rfl, hg1, hr1, hb1⟩
  have hs1 := hb1.size
  have HG1 := Lib.hid hg1
  have HR1 := Lib.hid hr1
  have HB1 := Lib.hid hb1
  clear hg1 hr1 hb1
  go_wp2_with (go_at_call 12; refine (parse_two W1 (HE.out.keep HB1.out h9)).mono ?_)
  rintro e W2 ⟨x, rfl, hx2, hb2⟩
  have hs2 := hb2.size
  have hg2 := own_keep (w' := W2) HG1.out (fun k hk _ _ => hb2.block k hk)
  have hr2 := own_keep (w' := W2) HR1.out (fun k hk _ _ => hb2.block k hk)
  have HG2 := Lib.hid hg2
  have HR2 := Lib.hid hr2
  have HB2 := Lib.hid (HB1.out.trans (hb2.mono hs1))
  have HX2 := Lib.hid hx2
  clear hg2 hr2 hb2 hx2
  go_wp2_with (go_at_call 14; refine (wrong_any 23 2 x W2 (HE.out.keep HB2.out h9) HX2.out).mono ?_)
  rintro e W3 ⟨rfl, hb3⟩
  have hg3 := own_keep (w' := W3) HG2.out (fun k hk _ _ => hb3.block k hk)
  have hr3 := own_keep (w' := W3) HR2.out (fun k hk _ _ => hb3.block k hk)
  have HG3 := Lib.hid hg3
  have HR3 := Lib.hid hr3
  have HB3 := Lib.hid (HB2.out.trans (hb3.mono (by omega)))
  have hs3 : w.heap.size ≤ W3.heap.size := by have := hb3.size; omega
  clear hg3 hr3 hb3
  go_wp2_with fail
  have hW4 : ∃ W4, W4 = (W3.alloc (.cells #[.int .i64 (-5), .int .i64 7] 3)).alloc (.cells #[.slice (some ⟨W3.heap.size, 0, none⟩) 2 2, .int .i64 2] 45) := ⟨_, rfl⟩
  obtain ⟨W4, hW4⟩ := hW4
  have hk4 : ∀ k, k < W3.heap.size → W4.heap[k]? = W3.heap[k]? := fun k hk => by rw [hW4, Lib.alloc_old _ _ k (by simp; omega), Lib.alloc_old _ _ k hk]
  have hg4 := own_keep (w' := W4) HG3.out (fun k hk _ _ => hk4 k hk)
  have hr4 := own_keep (w' := W4) HR3.out (fun k hk _ _ => hk4 k hk)
  have hl4 : W4.heap[W3.heap.size]? = some (.cells #[.int .i64 (-5), .int .i64 7] 3 (0, 0)) := by rw [hW4, Lib.alloc_old _ _ _ (by simp)]; exact heap_alloc_new W3 _
  have hm4 : W4.heap[W3.heap.size + 1]? = some (.cells #[.slice (some ⟨W3.heap.size, 0, none⟩) 2 2, .int .i64 2] 45 (0, 0)) := by
    have := heap_alloc_new (W3.alloc (.cells #[.int .i64 (-5), .int .i64 7] 3)) (.cells #[.slice (some ⟨W3.heap.size, 0, none⟩) 2 2, .int .i64 2] 45)
    rw [size_alloc1] at this
    rw [hW4]
    exact this
  have hb4 : Below w.heap.size w W4 := by rw [hW4]; exact (HB3.out.alloc hs3 _).alloc (by simp; omega) _
  have hs4 : w.heap.size ≤ W4.heap.size := by rw [hW4]; simp; omega
  rw [← hW4]
  clear hW4 hk4
  refine (scans_one g cg r c (W3.heap.size + 1) W3.heap.size W4 (hg4.cellAt 0 (by decide)) (hg4.cellAt 1 (by decide)) (by rw [Lib.cell_of_heap hm4]; rfl) (by rw [Lib.cell_of_heap hm4]; rfl) (hr4.cellAt 0 (by decide)) (hr4.cellAt 1 (by decide)) (by rw [Lib.cell_of_heap hl4]; rfl) (by rw [Lib.cell_of_heap hl4]; rfl)).mono ?_
  rintro e W5 ⟨rfl, n5, hW5⟩
  have hb5 : Below w.heap.size w W5 := by rw [hW5]; exact below_drew hb4 n5
  have hs5 : w.heap.size ≤ W5.heap.size := by rw [hW5]; exact hs4
  have HB5 := Lib.hid hb5
  clear hg4 hr4 hl4 hm4 hb4 hb5 hW5
  go_wp2_with (go_at_call 16; refine (phex_any ⟨#[15, 122]⟩ (by decide) _ W5 hs5).mono ?_)
  rintro e W6 ⟨rfl, hb6⟩
  rw [hexes1]
  have HB6 := Lib.hid (HB5.out.trans hb6)
  clear hb6
  go_wp2_with fail
  go_ret
  exact ⟨rfl, HB6.out⟩
end Go.Proofs.YtjbagjmjbfiddaaGreatDoor
