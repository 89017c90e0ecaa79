/-
  image.Same, whatever it is asked: an image.
-/
import Derived.Test.YtoaohoeghlidaaaGreatDoorSmD
namespace Go.Proofs.YtoaohoeghlidaaaGreatDoor
open Go.ChangeShapes Go.WideShapes Go.ChangeAt Go.RowKit

set_option maxHeartbeats 8000000 in
set_option maxRecDepth 100000 in
theorem sm_img : Sm 13 [] mkA shImg := by
  intro lim W vs us x y h1 h2 hl
  obtain ⟨pa0, pl0, pc0, pa1, pl1, pc1, pa2, pl2, pc2, pa3, pl3, pc3, pa5, pl5, pc5, pa6, pl6, pc6, pa7, pl7, pc7, pa8, pl8, pc8, pa9, pl9, pc9, rfl, hp0, hp1, hp2, hp3, hp5, hp6, hp7, hp8, hp9⟩ := img_is.1 h1
  obtain ⟨qa0, ql0, qc0, qa1, ql1, qc1, qa2, ql2, qc2, qa3, ql3, qc3, qa5, ql5, qc5, qa6, ql6, qc6, qa7, ql7, qc7, qa8, ql8, qc8, qa9, ql9, qc9, rfl, hq0, hq1, hq2, hq3, hq5, hq6, hq7, hq8, hq9⟩ := img_is.1 h2
  clear h1 h2
  rcases x with ⟨x0, x1, x2, x3, x4, x5, x6, x7, x8, x9, x10, x11⟩
  rcases y with ⟨y0, y1, y2, y3, y4, y5, y6, y7, y8, y9, y10, y11⟩
  have HP0 := Lib.hid (show Row (shSlice shStr) (fun k => k < lim) W pa0 pl0 x0 from hp0)
  have HQ0 := Lib.hid (show Row (shSlice shStr) (fun k => k < lim) W qa0 ql0 y0 from hq0)
  have HP1 := Lib.hid (show Row shDesc (fun k => k < lim) W pa1 pl1 x1 from hp1)
  have HQ1 := Lib.hid (show Row shDesc (fun k => k < lim) W qa1 ql1 y1 from hq1)
  have HP2 := Lib.hid (show Row shCode (fun k => k < lim) W pa2 pl2 x2 from hp2)
  have HQ2 := Lib.hid (show Row shCode (fun k => k < lim) W qa2 ql2 y2 from hq2)
  have HP3 := Lib.hid (show Row shInt (fun k => k < lim) W pa3 pl3 x3 from hp3)
  have HQ3 := Lib.hid (show Row shInt (fun k => k < lim) W qa3 ql3 y3 from hq3)
  have HP5 := Lib.hid (show Row shInt (fun k => k < lim) W pa5 pl5 x5 from hp5)
  have HQ5 := Lib.hid (show Row shInt (fun k => k < lim) W qa5 ql5 y5 from hq5)
  have HP6 := Lib.hid (show Row shInt (fun k => k < lim) W pa6 pl6 x6 from hp6)
  have HQ6 := Lib.hid (show Row shInt (fun k => k < lim) W qa6 ql6 y6 from hq6)
  have HP7 := Lib.hid (show Row shLink (fun k => k < lim) W pa7 pl7 x7 from hp7)
  have HQ7 := Lib.hid (show Row shLink (fun k => k < lim) W qa7 ql7 y7 from hq7)
  have HP8 := Lib.hid (show Row shLink (fun k => k < lim) W pa8 pl8 x8 from hp8)
  have HQ8 := Lib.hid (show Row shLink (fun k => k < lim) W qa8 ql8 y8 from hq8)
  have HP9 := Lib.hid (show Row shJob (fun k => k < lim) W pa9 pl9 x9 from hp9)
  have HQ9 := Lib.hid (show Row shJob (fun k => k < lim) W qa9 ql9 y9 from hq9)
  have HB0 := Lib.hid (((Below.refl W.heap.size W).alloc (Nat.le_refl _) (.cells #[.slice pa0 pl0 pc0, .slice pa1 pl1 pc1, .slice pa2 pl2 pc2, .slice pa3 pl3 pc3, .string x4, .slice pa5 pl5 pc5, .slice pa6 pl6 pc6, .slice pa7 pl7 pc7, .slice pa8 pl8 pc8, .slice pa9 pl9 pc9, .int .i64 x10, .int .i64 x11] 29)).alloc (by simp) (.cells #[.slice qa0 ql0 qc0, .slice qa1 ql1 qc1, .slice qa2 ql2 qc2, .slice qa3 ql3 qc3, .string y4, .slice qa5 ql5 qc5, .slice qa6 ql6 qc6, .slice qa7 ql7 qc7, .slice qa8 ql8 qc8, .slice qa9 ql9 qc9, .int .i64 y10, .int .i64 y11] 29))
  have HX0 := Lib.hid ((Below.heap_alloc (W.alloc (.cells #[.slice pa0 pl0 pc0, .slice pa1 pl1 pc1, .slice pa2 pl2 pc2, .slice pa3 pl3 pc3, .string x4, .slice pa5 pl5 pc5, .slice pa6 pl6 pc6, .slice pa7 pl7 pc7, .slice pa8 pl8 pc8, .slice pa9 pl9 pc9, .int .i64 x10, .int .i64 x11] 29)) (.cells #[.slice qa0 ql0 qc0, .slice qa1 ql1 qc1, .slice qa2 ql2 qc2, .slice qa3 ql3 qc3, .string y4, .slice qa5 ql5 qc5, .slice qa6 ql6 qc6, .slice qa7 ql7 qc7, .slice qa8 ql8 qc8, .slice qa9 ql9 qc9, .int .i64 y10, .int .i64 y11] 29) W.heap.size (by simp)).trans (heap_alloc_new W (.cells #[.slice pa0 pl0 pc0, .slice pa1 pl1 pc1, .slice pa2 pl2 pc2, .slice pa3 pl3 pc3, .string x4, .slice pa5 pl5 pc5, .slice pa6 pl6 pc6, .slice pa7 pl7 pc7, .slice pa8 pl8 pc8, .slice pa9 pl9 pc9, .int .i64 x10, .int .i64 x11] 29)))
  have HY0 := Lib.hid (show ((W.alloc (.cells #[.slice pa0 pl0 pc0, .slice pa1 pl1 pc1, .slice pa2 pl2 pc2, .slice pa3 pl3 pc3, .string x4, .slice pa5 pl5 pc5, .slice pa6 pl6 pc6, .slice pa7 pl7 pc7, .slice pa8 pl8 pc8, .slice pa9 pl9 pc9, .int .i64 x10, .int .i64 x11] 29)).alloc (.cells #[.slice qa0 ql0 qc0, .slice qa1 ql1 qc1, .slice qa2 ql2 qc2, .slice qa3 ql3 qc3, .string y4, .slice qa5 ql5 qc5, .slice qa6 ql6 qc6, .slice qa7 ql7 qc7, .slice qa8 ql8 qc8, .slice qa9 ql9 qc9, .int .i64 y10, .int .i64 y11] 29)).heap[W.heap.size + 1]? = some (.cells #[.slice qa0 ql0 qc0, .slice qa1 ql1 qc1, .slice qa2 ql2 qc2, .slice qa3 ql3 qc3, .string y4, .slice qa5 ql5 qc5, .slice qa6 ql6 qc6, .slice qa7 ql7 qc7, .slice qa8 ql8 qc8, .slice qa9 ql9 qc9, .int .i64 y10, .int .i64 y11] 29 (0, 0)) by have := heap_alloc_new (W.alloc (.cells #[.slice pa0 pl0 pc0, .slice pa1 pl1 pc1, .slice pa2 pl2 pc2, .slice pa3 pl3 pc3, .string x4, .slice pa5 pl5 pc5, .slice pa6 pl6 pc6, .slice pa7 pl7 pc7, .slice pa8 pl8 pc8, .slice pa9 pl9 pc9, .int .i64 x10, .int .i64 x11] 29)) (.cells #[.slice qa0 ql0 qc0, .slice qa1 ql1 qc1, .slice qa2 ql2 qc2, .slice qa3 ql3 qc3, .string y4, .slice qa5 ql5 qc5, .slice qa6 ql6 qc6, .slice qa7 ql7 qc7, .slice qa8 ql8 qc8, .slice qa9 ql9 qc9, .int .i64 y10, .int .i64 y11] 29); rw [show (W.alloc (.cells #[.slice pa0 pl0 pc0, .slice pa1 pl1 pc1, .slice pa2 pl2 pc2, .slice pa3 pl3 pc3, .string x4, .slice pa5 pl5 pc5, .slice pa6 pl6 pc6, .slice pa7 pl7 pc7, .slice pa8 pl8 pc8, .slice pa9 pl9 pc9, .int .i64 x10, .int .i64 x11] 29)).heap.size = W.heap.size + 1 by simp] at this; exact this)
  clear hp0 hq0 hp1 hq1 hp2 hq2 hp3 hq3 hp5 hq5 hp6 hq6 hp7 hq7 hp8 hq8 hp9 hq9
  show Calls Tryz.prog 13 #[.agg #[.slice pa0 pl0 pc0, .slice pa1 pl1 pc1, .slice pa2 pl2 pc2, .slice pa3 pl3 pc3, .string x4, .slice pa5 pl5 pc5, .slice pa6 pl6 pc6, .slice pa7 pl7 pc7, .slice pa8 pl8 pc8, .slice pa9 pl9 pc9, .int .i64 x10, .int .i64 x11], .agg #[.slice qa0 ql0 qc0, .slice qa1 ql1 qc1, .slice qa2 ql2 qc2, .slice qa3 ql3 qc3, .string y4, .slice qa5 ql5 qc5, .slice qa6 ql6 qc6, .slice qa7 ql7 qc7, .slice qa8 ql8 qc8, .slice qa9 ql9 qc9, .int .i64 y10, .int .i64 y11]] W _
  go_enter Tryz.func13, Tryz.ntmps13
  have e0 : ((W.alloc (.cells #[.slice pa0 pl0 pc0, .slice pa1 pl1 pc1, .slice pa2 pl2 pc2, .slice pa3 pl3 pc3, .string x4, .slice pa5 pl5 pc5, .slice pa6 pl6 pc6, .slice pa7 pl7 pc7, .slice pa8 pl8 pc8, .slice pa9 pl9 pc9, .int .i64 x10, .int .i64 x11] 29)).alloc (.cells #[.slice qa0 ql0 qc0, .slice qa1 ql1 qc1, .slice qa2 ql2 qc2, .slice qa3 ql3 qc3, .string y4, .slice qa5 ql5 qc5, .slice qa6 ql6 qc6, .slice qa7 ql7 qc7, .slice qa8 ql8 qc8, .slice qa9 ql9 qc9, .int .i64 y10, .int .i64 y11] 29)).cell? ⟨W.heap.size, 0, none⟩ = some (.slice pa0 pl0 pc0) := by rw [Lib.cell_of_heap HX0.out]; rfl
  have d0 : ((W.alloc (.cells #[.slice pa0 pl0 pc0, .slice pa1 pl1 pc1, .slice pa2 pl2 pc2, .slice pa3 pl3 pc3, .string x4, .slice pa5 pl5 pc5, .slice pa6 pl6 pc6, .slice pa7 pl7 pc7, .slice pa8 pl8 pc8, .slice pa9 pl9 pc9, .int .i64 x10, .int .i64 x11] 29)).alloc (.cells #[.slice qa0 ql0 qc0, .slice qa1 ql1 qc1, .slice qa2 ql2 qc2, .slice qa3 ql3 qc3, .string y4, .slice qa5 ql5 qc5, .slice qa6 ql6 qc6, .slice qa7 ql7 qc7, .slice qa8 ql8 qc8, .slice qa9 ql9 qc9, .int .i64 y10, .int .i64 y11] 29)).cell? ⟨W.heap.size + 1, 0, none⟩ = some (.slice qa0 ql0 qc0) := by rw [Lib.cell_of_heap HY0.out]; rfl
  have e1 : ((W.alloc (.cells #[.slice pa0 pl0 pc0, .slice pa1 pl1 pc1, .slice pa2 pl2 pc2, .slice pa3 pl3 pc3, .string x4, .slice pa5 pl5 pc5, .slice pa6 pl6 pc6, .slice pa7 pl7 pc7, .slice pa8 pl8 pc8, .slice pa9 pl9 pc9, .int .i64 x10, .int .i64 x11] 29)).alloc (.cells #[.slice qa0 ql0 qc0, .slice qa1 ql1 qc1, .slice qa2 ql2 qc2, .slice qa3 ql3 qc3, .string y4, .slice qa5 ql5 qc5, .slice qa6 ql6 qc6, .slice qa7 ql7 qc7, .slice qa8 ql8 qc8, .slice qa9 ql9 qc9, .int .i64 y10, .int .i64 y11] 29)).cell? ⟨W.heap.size, 1, none⟩ = some (.slice pa1 pl1 pc1) := by rw [Lib.cell_of_heap HX0.out]; rfl
  have d1 : ((W.alloc (.cells #[.slice pa0 pl0 pc0, .slice pa1 pl1 pc1, .slice pa2 pl2 pc2, .slice pa3 pl3 pc3, .string x4, .slice pa5 pl5 pc5, .slice pa6 pl6 pc6, .slice pa7 pl7 pc7, .slice pa8 pl8 pc8, .slice pa9 pl9 pc9, .int .i64 x10, .int .i64 x11] 29)).alloc (.cells #[.slice qa0 ql0 qc0, .slice qa1 ql1 qc1, .slice qa2 ql2 qc2, .slice qa3 ql3 qc3, .string y4, .slice qa5 ql5 qc5, .slice qa6 ql6 qc6, .slice qa7 ql7 qc7, .slice qa8 ql8 qc8, .slice qa9 ql9 qc9, .int .i64 y10, .int .i64 y11] 29)).cell? ⟨W.heap.size + 1, 1, none⟩ = some (.slice qa1 ql1 qc1) := by rw [Lib.cell_of_heap HY0.out]; rfl
  have e2 : ((W.alloc (.cells #[.slice pa0 pl0 pc0, .slice pa1 pl1 pc1, .slice pa2 pl2 pc2, .slice pa3 pl3 pc3, .string x4, .slice pa5 pl5 pc5, .slice pa6 pl6 pc6, .slice pa7 pl7 pc7, .slice pa8 pl8 pc8, .slice pa9 pl9 pc9, .int .i64 x10, .int .i64 x11] 29)).alloc (.cells #[.slice qa0 ql0 qc0, .slice qa1 ql1 qc1, .slice qa2 ql2 qc2, .slice qa3 ql3 qc3, .string y4, .slice qa5 ql5 qc5, .slice qa6 ql6 qc6, .slice qa7 ql7 qc7, .slice qa8 ql8 qc8, .slice qa9 ql9 qc9, .int .i64 y10, .int .i64 y11] 29)).cell? ⟨W.heap.size, 2, none⟩ = some (.slice pa2 pl2 pc2) := by rw [Lib.cell_of_heap HX0.out]; rfl
  have d2 : ((W.alloc (.cells #[.slice pa0 pl0 pc0, .slice pa1 pl1 pc1, .slice pa2 pl2 pc2, .slice pa3 pl3 pc3, .string x4, .slice pa5 pl5 pc5, .slice pa6 pl6 pc6, .slice pa7 pl7 pc7, .slice pa8 pl8 pc8, .slice pa9 pl9 pc9, .int .i64 x10, .int .i64 x11] 29)).alloc (.cells #[.slice qa0 ql0 qc0, .slice qa1 ql1 qc1, .slice qa2 ql2 qc2, .slice qa3 ql3 qc3, .string y4, .slice qa5 ql5 qc5, .slice qa6 ql6 qc6, .slice qa7 ql7 qc7, .slice qa8 ql8 qc8, .slice qa9 ql9 qc9, .int .i64 y10, .int .i64 y11] 29)).cell? ⟨W.heap.size + 1, 2, none⟩ = some (.slice qa2 ql2 qc2) := by rw [Lib.cell_of_heap HY0.out]; rfl
  have e3 : ((W.alloc (.cells #[.slice pa0 pl0 pc0, .slice pa1 pl1 pc1, .slice pa2 pl2 pc2, .slice pa3 pl3 pc3, .string x4, .slice pa5 pl5 pc5, .slice pa6 pl6 pc6, .slice pa7 pl7 pc7, .slice pa8 pl8 pc8, .slice pa9 pl9 pc9, .int .i64 x10, .int .i64 x11] 29)).alloc (.cells #[.slice qa0 ql0 qc0, .slice qa1 ql1 qc1, .slice qa2 ql2 qc2, .slice qa3 ql3 qc3, .string y4, .slice qa5 ql5 qc5, .slice qa6 ql6 qc6, .slice qa7 ql7 qc7, .slice qa8 ql8 qc8, .slice qa9 ql9 qc9, .int .i64 y10, .int .i64 y11] 29)).cell? ⟨W.heap.size, 3, none⟩ = some (.slice pa3 pl3 pc3) := by rw [Lib.cell_of_heap HX0.out]; rfl
  have d3 : ((W.alloc (.cells #[.slice pa0 pl0 pc0, .slice pa1 pl1 pc1, .slice pa2 pl2 pc2, .slice pa3 pl3 pc3, .string x4, .slice pa5 pl5 pc5, .slice pa6 pl6 pc6, .slice pa7 pl7 pc7, .slice pa8 pl8 pc8, .slice pa9 pl9 pc9, .int .i64 x10, .int .i64 x11] 29)).alloc (.cells #[.slice qa0 ql0 qc0, .slice qa1 ql1 qc1, .slice qa2 ql2 qc2, .slice qa3 ql3 qc3, .string y4, .slice qa5 ql5 qc5, .slice qa6 ql6 qc6, .slice qa7 ql7 qc7, .slice qa8 ql8 qc8, .slice qa9 ql9 qc9, .int .i64 y10, .int .i64 y11] 29)).cell? ⟨W.heap.size + 1, 3, none⟩ = some (.slice qa3 ql3 qc3) := by rw [Lib.cell_of_heap HY0.out]; rfl
  have e4 : ((W.alloc (.cells #[.slice pa0 pl0 pc0, .slice pa1 pl1 pc1, .slice pa2 pl2 pc2, .slice pa3 pl3 pc3, .string x4, .slice pa5 pl5 pc5, .slice pa6 pl6 pc6, .slice pa7 pl7 pc7, .slice pa8 pl8 pc8, .slice pa9 pl9 pc9, .int .i64 x10, .int .i64 x11] 29)).alloc (.cells #[.slice qa0 ql0 qc0, .slice qa1 ql1 qc1, .slice qa2 ql2 qc2, .slice qa3 ql3 qc3, .string y4, .slice qa5 ql5 qc5, .slice qa6 ql6 qc6, .slice qa7 ql7 qc7, .slice qa8 ql8 qc8, .slice qa9 ql9 qc9, .int .i64 y10, .int .i64 y11] 29)).cell? ⟨W.heap.size, 4, none⟩ = some (.string x4) := by rw [Lib.cell_of_heap HX0.out]; rfl
  have d4 : ((W.alloc (.cells #[.slice pa0 pl0 pc0, .slice pa1 pl1 pc1, .slice pa2 pl2 pc2, .slice pa3 pl3 pc3, .string x4, .slice pa5 pl5 pc5, .slice pa6 pl6 pc6, .slice pa7 pl7 pc7, .slice pa8 pl8 pc8, .slice pa9 pl9 pc9, .int .i64 x10, .int .i64 x11] 29)).alloc (.cells #[.slice qa0 ql0 qc0, .slice qa1 ql1 qc1, .slice qa2 ql2 qc2, .slice qa3 ql3 qc3, .string y4, .slice qa5 ql5 qc5, .slice qa6 ql6 qc6, .slice qa7 ql7 qc7, .slice qa8 ql8 qc8, .slice qa9 ql9 qc9, .int .i64 y10, .int .i64 y11] 29)).cell? ⟨W.heap.size + 1, 4, none⟩ = some (.string y4) := by rw [Lib.cell_of_heap HY0.out]; rfl
  have e5 : ((W.alloc (.cells #[.slice pa0 pl0 pc0, .slice pa1 pl1 pc1, .slice pa2 pl2 pc2, .slice pa3 pl3 pc3, .string x4, .slice pa5 pl5 pc5, .slice pa6 pl6 pc6, .slice pa7 pl7 pc7, .slice pa8 pl8 pc8, .slice pa9 pl9 pc9, .int .i64 x10, .int .i64 x11] 29)).alloc (.cells #[.slice qa0 ql0 qc0, .slice qa1 ql1 qc1, .slice qa2 ql2 qc2, .slice qa3 ql3 qc3, .string y4, .slice qa5 ql5 qc5, .slice qa6 ql6 qc6, .slice qa7 ql7 qc7, .slice qa8 ql8 qc8, .slice qa9 ql9 qc9, .int .i64 y10, .int .i64 y11] 29)).cell? ⟨W.heap.size, 5, none⟩ = some (.slice pa5 pl5 pc5) := by rw [Lib.cell_of_heap HX0.out]; rfl
  have d5 : ((W.alloc (.cells #[.slice pa0 pl0 pc0, .slice pa1 pl1 pc1, .slice pa2 pl2 pc2, .slice pa3 pl3 pc3, .string x4, .slice pa5 pl5 pc5, .slice pa6 pl6 pc6, .slice pa7 pl7 pc7, .slice pa8 pl8 pc8, .slice pa9 pl9 pc9, .int .i64 x10, .int .i64 x11] 29)).alloc (.cells #[.slice qa0 ql0 qc0, .slice qa1 ql1 qc1, .slice qa2 ql2 qc2, .slice qa3 ql3 qc3, .string y4, .slice qa5 ql5 qc5, .slice qa6 ql6 qc6, .slice qa7 ql7 qc7, .slice qa8 ql8 qc8, .slice qa9 ql9 qc9, .int .i64 y10, .int .i64 y11] 29)).cell? ⟨W.heap.size + 1, 5, none⟩ = some (.slice qa5 ql5 qc5) := by rw [Lib.cell_of_heap HY0.out]; rfl
  have e6 : ((W.alloc (.cells #[.slice pa0 pl0 pc0, .slice pa1 pl1 pc1, .slice pa2 pl2 pc2, .slice pa3 pl3 pc3, .string x4, .slice pa5 pl5 pc5, .slice pa6 pl6 pc6, .slice pa7 pl7 pc7, .slice pa8 pl8 pc8, .slice pa9 pl9 pc9, .int .i64 x10, .int .i64 x11] 29)).alloc (.cells #[.slice qa0 ql0 qc0, .slice qa1 ql1 qc1, .slice qa2 ql2 qc2, .slice qa3 ql3 qc3, .string y4, .slice qa5 ql5 qc5, .slice qa6 ql6 qc6, .slice qa7 ql7 qc7, .slice qa8 ql8 qc8, .slice qa9 ql9 qc9, .int .i64 y10, .int .i64 y11] 29)).cell? ⟨W.heap.size, 6, none⟩ = some (.slice pa6 pl6 pc6) := by rw [Lib.cell_of_heap HX0.out]; rfl
  have d6 : ((W.alloc (.cells #[.slice pa0 pl0 pc0, .slice pa1 pl1 pc1, .slice pa2 pl2 pc2, .slice pa3 pl3 pc3, .string x4, .slice pa5 pl5 pc5, .slice pa6 pl6 pc6, .slice pa7 pl7 pc7, .slice pa8 pl8 pc8, .slice pa9 pl9 pc9, .int .i64 x10, .int .i64 x11] 29)).alloc (.cells #[.slice qa0 ql0 qc0, .slice qa1 ql1 qc1, .slice qa2 ql2 qc2, .slice qa3 ql3 qc3, .string y4, .slice qa5 ql5 qc5, .slice qa6 ql6 qc6, .slice qa7 ql7 qc7, .slice qa8 ql8 qc8, .slice qa9 ql9 qc9, .int .i64 y10, .int .i64 y11] 29)).cell? ⟨W.heap.size + 1, 6, none⟩ = some (.slice qa6 ql6 qc6) := by rw [Lib.cell_of_heap HY0.out]; rfl
  have e7 : ((W.alloc (.cells #[.slice pa0 pl0 pc0, .slice pa1 pl1 pc1, .slice pa2 pl2 pc2, .slice pa3 pl3 pc3, .string x4, .slice pa5 pl5 pc5, .slice pa6 pl6 pc6, .slice pa7 pl7 pc7, .slice pa8 pl8 pc8, .slice pa9 pl9 pc9, .int .i64 x10, .int .i64 x11] 29)).alloc (.cells #[.slice qa0 ql0 qc0, .slice qa1 ql1 qc1, .slice qa2 ql2 qc2, .slice qa3 ql3 qc3, .string y4, .slice qa5 ql5 qc5, .slice qa6 ql6 qc6, .slice qa7 ql7 qc7, .slice qa8 ql8 qc8, .slice qa9 ql9 qc9, .int .i64 y10, .int .i64 y11] 29)).cell? ⟨W.heap.size, 7, none⟩ = some (.slice pa7 pl7 pc7) := by rw [Lib.cell_of_heap HX0.out]; rfl
  have d7 : ((W.alloc (.cells #[.slice pa0 pl0 pc0, .slice pa1 pl1 pc1, .slice pa2 pl2 pc2, .slice pa3 pl3 pc3, .string x4, .slice pa5 pl5 pc5, .slice pa6 pl6 pc6, .slice pa7 pl7 pc7, .slice pa8 pl8 pc8, .slice pa9 pl9 pc9, .int .i64 x10, .int .i64 x11] 29)).alloc (.cells #[.slice qa0 ql0 qc0, .slice qa1 ql1 qc1, .slice qa2 ql2 qc2, .slice qa3 ql3 qc3, .string y4, .slice qa5 ql5 qc5, .slice qa6 ql6 qc6, .slice qa7 ql7 qc7, .slice qa8 ql8 qc8, .slice qa9 ql9 qc9, .int .i64 y10, .int .i64 y11] 29)).cell? ⟨W.heap.size + 1, 7, none⟩ = some (.slice qa7 ql7 qc7) := by rw [Lib.cell_of_heap HY0.out]; rfl
  have e8 : ((W.alloc (.cells #[.slice pa0 pl0 pc0, .slice pa1 pl1 pc1, .slice pa2 pl2 pc2, .slice pa3 pl3 pc3, .string x4, .slice pa5 pl5 pc5, .slice pa6 pl6 pc6, .slice pa7 pl7 pc7, .slice pa8 pl8 pc8, .slice pa9 pl9 pc9, .int .i64 x10, .int .i64 x11] 29)).alloc (.cells #[.slice qa0 ql0 qc0, .slice qa1 ql1 qc1, .slice qa2 ql2 qc2, .slice qa3 ql3 qc3, .string y4, .slice qa5 ql5 qc5, .slice qa6 ql6 qc6, .slice qa7 ql7 qc7, .slice qa8 ql8 qc8, .slice qa9 ql9 qc9, .int .i64 y10, .int .i64 y11] 29)).cell? ⟨W.heap.size, 8, none⟩ = some (.slice pa8 pl8 pc8) := by rw [Lib.cell_of_heap HX0.out]; rfl
  have d8 : ((W.alloc (.cells #[.slice pa0 pl0 pc0, .slice pa1 pl1 pc1, .slice pa2 pl2 pc2, .slice pa3 pl3 pc3, .string x4, .slice pa5 pl5 pc5, .slice pa6 pl6 pc6, .slice pa7 pl7 pc7, .slice pa8 pl8 pc8, .slice pa9 pl9 pc9, .int .i64 x10, .int .i64 x11] 29)).alloc (.cells #[.slice qa0 ql0 qc0, .slice qa1 ql1 qc1, .slice qa2 ql2 qc2, .slice qa3 ql3 qc3, .string y4, .slice qa5 ql5 qc5, .slice qa6 ql6 qc6, .slice qa7 ql7 qc7, .slice qa8 ql8 qc8, .slice qa9 ql9 qc9, .int .i64 y10, .int .i64 y11] 29)).cell? ⟨W.heap.size + 1, 8, none⟩ = some (.slice qa8 ql8 qc8) := by rw [Lib.cell_of_heap HY0.out]; rfl
  have e9 : ((W.alloc (.cells #[.slice pa0 pl0 pc0, .slice pa1 pl1 pc1, .slice pa2 pl2 pc2, .slice pa3 pl3 pc3, .string x4, .slice pa5 pl5 pc5, .slice pa6 pl6 pc6, .slice pa7 pl7 pc7, .slice pa8 pl8 pc8, .slice pa9 pl9 pc9, .int .i64 x10, .int .i64 x11] 29)).alloc (.cells #[.slice qa0 ql0 qc0, .slice qa1 ql1 qc1, .slice qa2 ql2 qc2, .slice qa3 ql3 qc3, .string y4, .slice qa5 ql5 qc5, .slice qa6 ql6 qc6, .slice qa7 ql7 qc7, .slice qa8 ql8 qc8, .slice qa9 ql9 qc9, .int .i64 y10, .int .i64 y11] 29)).cell? ⟨W.heap.size, 9, none⟩ = some (.slice pa9 pl9 pc9) := by rw [Lib.cell_of_heap HX0.out]; rfl
  have d9 : ((W.alloc (.cells #[.slice pa0 pl0 pc0, .slice pa1 pl1 pc1, .slice pa2 pl2 pc2, .slice pa3 pl3 pc3, .string x4, .slice pa5 pl5 pc5, .slice pa6 pl6 pc6, .slice pa7 pl7 pc7, .slice pa8 pl8 pc8, .slice pa9 pl9 pc9, .int .i64 x10, .int .i64 x11] 29)).alloc (.cells #[.slice qa0 ql0 qc0, .slice qa1 ql1 qc1, .slice qa2 ql2 qc2, .slice qa3 ql3 qc3, .string y4, .slice qa5 ql5 qc5, .slice qa6 ql6 qc6, .slice qa7 ql7 qc7, .slice qa8 ql8 qc8, .slice qa9 ql9 qc9, .int .i64 y10, .int .i64 y11] 29)).cell? ⟨W.heap.size + 1, 9, none⟩ = some (.slice qa9 ql9 qc9) := by rw [Lib.cell_of_heap HY0.out]; rfl
  have e10 : ((W.alloc (.cells #[.slice pa0 pl0 pc0, .slice pa1 pl1 pc1, .slice pa2 pl2 pc2, .slice pa3 pl3 pc3, .string x4, .slice pa5 pl5 pc5, .slice pa6 pl6 pc6, .slice pa7 pl7 pc7, .slice pa8 pl8 pc8, .slice pa9 pl9 pc9, .int .i64 x10, .int .i64 x11] 29)).alloc (.cells #[.slice qa0 ql0 qc0, .slice qa1 ql1 qc1, .slice qa2 ql2 qc2, .slice qa3 ql3 qc3, .string y4, .slice qa5 ql5 qc5, .slice qa6 ql6 qc6, .slice qa7 ql7 qc7, .slice qa8 ql8 qc8, .slice qa9 ql9 qc9, .int .i64 y10, .int .i64 y11] 29)).cell? ⟨W.heap.size, 10, none⟩ = some (.int .i64 x10) := by rw [Lib.cell_of_heap HX0.out]; rfl
  have d10 : ((W.alloc (.cells #[.slice pa0 pl0 pc0, .slice pa1 pl1 pc1, .slice pa2 pl2 pc2, .slice pa3 pl3 pc3, .string x4, .slice pa5 pl5 pc5, .slice pa6 pl6 pc6, .slice pa7 pl7 pc7, .slice pa8 pl8 pc8, .slice pa9 pl9 pc9, .int .i64 x10, .int .i64 x11] 29)).alloc (.cells #[.slice qa0 ql0 qc0, .slice qa1 ql1 qc1, .slice qa2 ql2 qc2, .slice qa3 ql3 qc3, .string y4, .slice qa5 ql5 qc5, .slice qa6 ql6 qc6, .slice qa7 ql7 qc7, .slice qa8 ql8 qc8, .slice qa9 ql9 qc9, .int .i64 y10, .int .i64 y11] 29)).cell? ⟨W.heap.size + 1, 10, none⟩ = some (.int .i64 y10) := by rw [Lib.cell_of_heap HY0.out]; rfl
  have e11 : ((W.alloc (.cells #[.slice pa0 pl0 pc0, .slice pa1 pl1 pc1, .slice pa2 pl2 pc2, .slice pa3 pl3 pc3, .string x4, .slice pa5 pl5 pc5, .slice pa6 pl6 pc6, .slice pa7 pl7 pc7, .slice pa8 pl8 pc8, .slice pa9 pl9 pc9, .int .i64 x10, .int .i64 x11] 29)).alloc (.cells #[.slice qa0 ql0 qc0, .slice qa1 ql1 qc1, .slice qa2 ql2 qc2, .slice qa3 ql3 qc3, .string y4, .slice qa5 ql5 qc5, .slice qa6 ql6 qc6, .slice qa7 ql7 qc7, .slice qa8 ql8 qc8, .slice qa9 ql9 qc9, .int .i64 y10, .int .i64 y11] 29)).cell? ⟨W.heap.size, 11, none⟩ = some (.int .i64 x11) := by rw [Lib.cell_of_heap HX0.out]; rfl
  have d11 : ((W.alloc (.cells #[.slice pa0 pl0 pc0, .slice pa1 pl1 pc1, .slice pa2 pl2 pc2, .slice pa3 pl3 pc3, .string x4, .slice pa5 pl5 pc5, .slice pa6 pl6 pc6, .slice pa7 pl7 pc7, .slice pa8 pl8 pc8, .slice pa9 pl9 pc9, .int .i64 x10, .int .i64 x11] 29)).alloc (.cells #[.slice qa0 ql0 qc0, .slice qa1 ql1 qc1, .slice qa2 ql2 qc2, .slice qa3 ql3 qc3, .string y4, .slice qa5 ql5 qc5, .slice qa6 ql6 qc6, .slice qa7 ql7 qc7, .slice qa8 ql8 qc8, .slice qa9 ql9 qc9, .int .i64 y10, .int .i64 y11] 29)).cell? ⟨W.heap.size + 1, 11, none⟩ = some (.int .i64 y11) := by rw [Lib.cell_of_heap HY0.out]; rfl
  have hc : Calls Tryz.prog 33 #[.slice pa0 pl0 pc0, .slice qa0 ql0 qc0, .func (.func 34) #[] #[]] ((W.alloc (.cells #[.slice pa0 pl0 pc0, .slice pa1 pl1 pc1, .slice pa2 pl2 pc2, .slice pa3 pl3 pc3, .string x4, .slice pa5 pl5 pc5, .slice pa6 pl6 pc6, .slice pa7 pl7 pc7, .slice pa8 pl8 pc8, .slice pa9 pl9 pc9, .int .i64 x10, .int .i64 x11] 29)).alloc (.cells #[.slice qa0 ql0 qc0, .slice qa1 ql1 qc1, .slice qa2 ql2 qc2, .slice qa3 ql3 qc3, .string y4, .slice qa5 ql5 qc5, .slice qa6 ql6 qc6, .slice qa7 ql7 qc7, .slice qa8 ql8 qc8, .slice qa9 ql9 qc9, .int .i64 y10, .int .i64 y11] 29)) _ := sm_faces lim ((W.alloc (.cells #[.slice pa0 pl0 pc0, .slice pa1 pl1 pc1, .slice pa2 pl2 pc2, .slice pa3 pl3 pc3, .string x4, .slice pa5 pl5 pc5, .slice pa6 pl6 pc6, .slice pa7 pl7 pc7, .slice pa8 pl8 pc8, .slice pa9 pl9 pc9, .int .i64 x10, .int .i64 x11] 29)).alloc (.cells #[.slice qa0 ql0 qc0, .slice qa1 ql1 qc1, .slice qa2 ql2 qc2, .slice qa3 ql3 qc3, .string y4, .slice qa5 ql5 qc5, .slice qa6 ql6 qc6, .slice qa7 ql7 qc7, .slice qa8 ql8 qc8, .slice qa9 ql9 qc9, .int .i64 y10, .int .i64 y11] 29)) [.slice pa0 pl0 pc0] [.slice qa0 ql0 qc0] x0 y0 (slice_is.2 ⟨_, _, _, rfl, HP0.out.keep (fun k hk => HB0.out.block k (by omega))⟩) (slice_is.2 ⟨_, _, _, rfl, HQ0.out.keep (fun k hk => HB0.out.block k (by omega))⟩) (Nat.le_trans hl HB0.out.size)
  go_wp2_with (go_at_call 33; refine hc.mono ?_)
  first | rintro e V1 ⟨⟨β, rfl, hβ⟩, hb⟩ | rintro e V1 β rfl hβ hb | rintro e V1 ⟨β, rfl, hβ⟩ hb
  have HB1 := Lib.hid (HB0.out.trans (hb.mono HB0.out.size))
  have HX1 := Lib.hid ((hb.block _ (heap_lt HX0.out)).trans HX0.out)
  have HY1 := Lib.hid ((hb.block _ (heap_lt HY0.out)).trans HY0.out)
  clear hc hb
  clear e0 d0 e1 d1 e2 d2 e3 d3 e4 d4 e5 d5 e6 d6 e7 d7 e8 d8 e9 d9 e10 d10 e11 d11
  clear HX0 HY0
  have e1 : V1.cell? ⟨W.heap.size, 1, none⟩ = some (.slice pa1 pl1 pc1) := by rw [Lib.cell_of_heap HX1.out]; rfl
  have d1 : V1.cell? ⟨W.heap.size + 1, 1, none⟩ = some (.slice qa1 ql1 qc1) := by rw [Lib.cell_of_heap HY1.out]; rfl
  have e2 : V1.cell? ⟨W.heap.size, 2, none⟩ = some (.slice pa2 pl2 pc2) := by rw [Lib.cell_of_heap HX1.out]; rfl
  have d2 : V1.cell? ⟨W.heap.size + 1, 2, none⟩ = some (.slice qa2 ql2 qc2) := by rw [Lib.cell_of_heap HY1.out]; rfl
  have e3 : V1.cell? ⟨W.heap.size, 3, none⟩ = some (.slice pa3 pl3 pc3) := by rw [Lib.cell_of_heap HX1.out]; rfl
  have d3 : V1.cell? ⟨W.heap.size + 1, 3, none⟩ = some (.slice qa3 ql3 qc3) := by rw [Lib.cell_of_heap HY1.out]; rfl
  have e4 : V1.cell? ⟨W.heap.size, 4, none⟩ = some (.string x4) := by rw [Lib.cell_of_heap HX1.out]; rfl
  have d4 : V1.cell? ⟨W.heap.size + 1, 4, none⟩ = some (.string y4) := by rw [Lib.cell_of_heap HY1.out]; rfl
  have e5 : V1.cell? ⟨W.heap.size, 5, none⟩ = some (.slice pa5 pl5 pc5) := by rw [Lib.cell_of_heap HX1.out]; rfl
  have d5 : V1.cell? ⟨W.heap.size + 1, 5, none⟩ = some (.slice qa5 ql5 qc5) := by rw [Lib.cell_of_heap HY1.out]; rfl
  have e6 : V1.cell? ⟨W.heap.size, 6, none⟩ = some (.slice pa6 pl6 pc6) := by rw [Lib.cell_of_heap HX1.out]; rfl
  have d6 : V1.cell? ⟨W.heap.size + 1, 6, none⟩ = some (.slice qa6 ql6 qc6) := by rw [Lib.cell_of_heap HY1.out]; rfl
  have e7 : V1.cell? ⟨W.heap.size, 7, none⟩ = some (.slice pa7 pl7 pc7) := by rw [Lib.cell_of_heap HX1.out]; rfl
  have d7 : V1.cell? ⟨W.heap.size + 1, 7, none⟩ = some (.slice qa7 ql7 qc7) := by rw [Lib.cell_of_heap HY1.out]; rfl
  have e8 : V1.cell? ⟨W.heap.size, 8, none⟩ = some (.slice pa8 pl8 pc8) := by rw [Lib.cell_of_heap HX1.out]; rfl
  have d8 : V1.cell? ⟨W.heap.size + 1, 8, none⟩ = some (.slice qa8 ql8 qc8) := by rw [Lib.cell_of_heap HY1.out]; rfl
  have e9 : V1.cell? ⟨W.heap.size, 9, none⟩ = some (.slice pa9 pl9 pc9) := by rw [Lib.cell_of_heap HX1.out]; rfl
  have d9 : V1.cell? ⟨W.heap.size + 1, 9, none⟩ = some (.slice qa9 ql9 qc9) := by rw [Lib.cell_of_heap HY1.out]; rfl
  have e10 : V1.cell? ⟨W.heap.size, 10, none⟩ = some (.int .i64 x10) := by rw [Lib.cell_of_heap HX1.out]; rfl
  have d10 : V1.cell? ⟨W.heap.size + 1, 10, none⟩ = some (.int .i64 y10) := by rw [Lib.cell_of_heap HY1.out]; rfl
  have e11 : V1.cell? ⟨W.heap.size, 11, none⟩ = some (.int .i64 x11) := by rw [Lib.cell_of_heap HX1.out]; rfl
  have d11 : V1.cell? ⟨W.heap.size + 1, 11, none⟩ = some (.int .i64 y11) := by rw [Lib.cell_of_heap HY1.out]; rfl
  cases β with
  | false =>
    have n0 : ¬ x0 = y0 := fun h => by have := hβ.2 h; cases this
    clear hβ
    have HNE := Lib.hid (show (⟨x0, x1, x2, x3, x4, x5, x6, x7, x8, x9, x10, x11⟩ : ImgD) ≠ ⟨y0, y1, y2, y3, y4, y5, y6, y7, y8, y9, y10, y11⟩ from fun h => n0 (by cases h; rfl))
    clear n0
    go_wp2_with fail
    go_returns
    exact ⟨⟨false, rfl, by simp only [Bool.false_eq_true, false_iff]; exact HNE.out⟩, HB1.out⟩
  | true =>
  have m0 := hβ.1 rfl
  clear hβ
  subst m0
  have hc : Calls Tryz.prog 35 #[.slice pa1 pl1 pc1, .slice qa1 ql1 qc1, .func (.func 36) #[] #[]] V1 _ := sm_descs lim V1 [.slice pa1 pl1 pc1] [.slice qa1 ql1 qc1] x1 y1 (slice_is.2 ⟨_, _, _, rfl, HP1.out.keep (fun k hk => HB1.out.block k (by omega))⟩) (slice_is.2 ⟨_, _, _, rfl, HQ1.out.keep (fun k hk => HB1.out.block k (by omega))⟩) (Nat.le_trans hl HB1.out.size)
  go_wp2_with (go_at_call 35; refine hc.mono ?_)
  first | rintro e V2 ⟨⟨β, rfl, hβ⟩, hb⟩ | rintro e V2 β rfl hβ hb | rintro e V2 ⟨β, rfl, hβ⟩ hb
  have HB2 := Lib.hid (HB1.out.trans (hb.mono HB1.out.size))
  have HX2 := Lib.hid ((hb.block _ (heap_lt HX1.out)).trans HX1.out)
  have HY2 := Lib.hid ((hb.block _ (heap_lt HY1.out)).trans HY1.out)
  clear hc hb
  clear e1 d1 e2 d2 e3 d3 e4 d4 e5 d5 e6 d6 e7 d7 e8 d8 e9 d9 e10 d10 e11 d11
  clear HX1 HY1
  have e2 : V2.cell? ⟨W.heap.size, 2, none⟩ = some (.slice pa2 pl2 pc2) := by rw [Lib.cell_of_heap HX2.out]; rfl
  have d2 : V2.cell? ⟨W.heap.size + 1, 2, none⟩ = some (.slice qa2 ql2 qc2) := by rw [Lib.cell_of_heap HY2.out]; rfl
  have e3 : V2.cell? ⟨W.heap.size, 3, none⟩ = some (.slice pa3 pl3 pc3) := by rw [Lib.cell_of_heap HX2.out]; rfl
  have d3 : V2.cell? ⟨W.heap.size + 1, 3, none⟩ = some (.slice qa3 ql3 qc3) := by rw [Lib.cell_of_heap HY2.out]; rfl
  have e4 : V2.cell? ⟨W.heap.size, 4, none⟩ = some (.string x4) := by rw [Lib.cell_of_heap HX2.out]; rfl
  have d4 : V2.cell? ⟨W.heap.size + 1, 4, none⟩ = some (.string y4) := by rw [Lib.cell_of_heap HY2.out]; rfl
  have e5 : V2.cell? ⟨W.heap.size, 5, none⟩ = some (.slice pa5 pl5 pc5) := by rw [Lib.cell_of_heap HX2.out]; rfl
  have d5 : V2.cell? ⟨W.heap.size + 1, 5, none⟩ = some (.slice qa5 ql5 qc5) := by rw [Lib.cell_of_heap HY2.out]; rfl
  have e6 : V2.cell? ⟨W.heap.size, 6, none⟩ = some (.slice pa6 pl6 pc6) := by rw [Lib.cell_of_heap HX2.out]; rfl
  have d6 : V2.cell? ⟨W.heap.size + 1, 6, none⟩ = some (.slice qa6 ql6 qc6) := by rw [Lib.cell_of_heap HY2.out]; rfl
  have e7 : V2.cell? ⟨W.heap.size, 7, none⟩ = some (.slice pa7 pl7 pc7) := by rw [Lib.cell_of_heap HX2.out]; rfl
  have d7 : V2.cell? ⟨W.heap.size + 1, 7, none⟩ = some (.slice qa7 ql7 qc7) := by rw [Lib.cell_of_heap HY2.out]; rfl
  have e8 : V2.cell? ⟨W.heap.size, 8, none⟩ = some (.slice pa8 pl8 pc8) := by rw [Lib.cell_of_heap HX2.out]; rfl
  have d8 : V2.cell? ⟨W.heap.size + 1, 8, none⟩ = some (.slice qa8 ql8 qc8) := by rw [Lib.cell_of_heap HY2.out]; rfl
  have e9 : V2.cell? ⟨W.heap.size, 9, none⟩ = some (.slice pa9 pl9 pc9) := by rw [Lib.cell_of_heap HX2.out]; rfl
  have d9 : V2.cell? ⟨W.heap.size + 1, 9, none⟩ = some (.slice qa9 ql9 qc9) := by rw [Lib.cell_of_heap HY2.out]; rfl
  have e10 : V2.cell? ⟨W.heap.size, 10, none⟩ = some (.int .i64 x10) := by rw [Lib.cell_of_heap HX2.out]; rfl
  have d10 : V2.cell? ⟨W.heap.size + 1, 10, none⟩ = some (.int .i64 y10) := by rw [Lib.cell_of_heap HY2.out]; rfl
  have e11 : V2.cell? ⟨W.heap.size, 11, none⟩ = some (.int .i64 x11) := by rw [Lib.cell_of_heap HX2.out]; rfl
  have d11 : V2.cell? ⟨W.heap.size + 1, 11, none⟩ = some (.int .i64 y11) := by rw [Lib.cell_of_heap HY2.out]; rfl
  cases β with
  | false =>
    have n1 : ¬ x1 = y1 := fun h => by have := hβ.2 h; cases this
    clear hβ
    have HNE := Lib.hid (show (⟨x0, x1, x2, x3, x4, x5, x6, x7, x8, x9, x10, x11⟩ : ImgD) ≠ ⟨x0, y1, y2, y3, y4, y5, y6, y7, y8, y9, y10, y11⟩ from fun h => n1 (by cases h; rfl))
    clear n1
    go_wp2_with fail
    go_returns
    exact ⟨⟨false, rfl, by simp only [Bool.false_eq_true, false_iff]; exact HNE.out⟩, HB2.out⟩
  | true =>
  have m1 := hβ.1 rfl
  clear hβ
  subst m1
  have hc : Calls Tryz.prog 37 #[.slice pa2 pl2 pc2, .slice qa2 ql2 qc2, .func (.func 38) #[] #[]] V2 _ := sm_codes lim V2 [.slice pa2 pl2 pc2] [.slice qa2 ql2 qc2] x2 y2 (slice_is.2 ⟨_, _, _, rfl, HP2.out.keep (fun k hk => HB2.out.block k (by omega))⟩) (slice_is.2 ⟨_, _, _, rfl, HQ2.out.keep (fun k hk => HB2.out.block k (by omega))⟩) (Nat.le_trans hl HB2.out.size)
  go_wp2_with (go_at_call 37; refine hc.mono ?_)
  first | rintro e V3 ⟨⟨β, rfl, hβ⟩, hb⟩ | rintro e V3 β rfl hβ hb | rintro e V3 ⟨β, rfl, hβ⟩ hb
  have HB3 := Lib.hid (HB2.out.trans (hb.mono HB2.out.size))
  have HX3 := Lib.hid ((hb.block _ (heap_lt HX2.out)).trans HX2.out)
  have HY3 := Lib.hid ((hb.block _ (heap_lt HY2.out)).trans HY2.out)
  clear hc hb
  clear e2 d2 e3 d3 e4 d4 e5 d5 e6 d6 e7 d7 e8 d8 e9 d9 e10 d10 e11 d11
  clear HX2 HY2
  have e3 : V3.cell? ⟨W.heap.size, 3, none⟩ = some (.slice pa3 pl3 pc3) := by rw [Lib.cell_of_heap HX3.out]; rfl
  have d3 : V3.cell? ⟨W.heap.size + 1, 3, none⟩ = some (.slice qa3 ql3 qc3) := by rw [Lib.cell_of_heap HY3.out]; rfl
  have e4 : V3.cell? ⟨W.heap.size, 4, none⟩ = some (.string x4) := by rw [Lib.cell_of_heap HX3.out]; rfl
  have d4 : V3.cell? ⟨W.heap.size + 1, 4, none⟩ = some (.string y4) := by rw [Lib.cell_of_heap HY3.out]; rfl
  have e5 : V3.cell? ⟨W.heap.size, 5, none⟩ = some (.slice pa5 pl5 pc5) := by rw [Lib.cell_of_heap HX3.out]; rfl
  have d5 : V3.cell? ⟨W.heap.size + 1, 5, none⟩ = some (.slice qa5 ql5 qc5) := by rw [Lib.cell_of_heap HY3.out]; rfl
  have e6 : V3.cell? ⟨W.heap.size, 6, none⟩ = some (.slice pa6 pl6 pc6) := by rw [Lib.cell_of_heap HX3.out]; rfl
  have d6 : V3.cell? ⟨W.heap.size + 1, 6, none⟩ = some (.slice qa6 ql6 qc6) := by rw [Lib.cell_of_heap HY3.out]; rfl
  have e7 : V3.cell? ⟨W.heap.size, 7, none⟩ = some (.slice pa7 pl7 pc7) := by rw [Lib.cell_of_heap HX3.out]; rfl
  have d7 : V3.cell? ⟨W.heap.size + 1, 7, none⟩ = some (.slice qa7 ql7 qc7) := by rw [Lib.cell_of_heap HY3.out]; rfl
  have e8 : V3.cell? ⟨W.heap.size, 8, none⟩ = some (.slice pa8 pl8 pc8) := by rw [Lib.cell_of_heap HX3.out]; rfl
  have d8 : V3.cell? ⟨W.heap.size + 1, 8, none⟩ = some (.slice qa8 ql8 qc8) := by rw [Lib.cell_of_heap HY3.out]; rfl
  have e9 : V3.cell? ⟨W.heap.size, 9, none⟩ = some (.slice pa9 pl9 pc9) := by rw [Lib.cell_of_heap HX3.out]; rfl
  have d9 : V3.cell? ⟨W.heap.size + 1, 9, none⟩ = some (.slice qa9 ql9 qc9) := by rw [Lib.cell_of_heap HY3.out]; rfl
  have e10 : V3.cell? ⟨W.heap.size, 10, none⟩ = some (.int .i64 x10) := by rw [Lib.cell_of_heap HX3.out]; rfl
  have d10 : V3.cell? ⟨W.heap.size + 1, 10, none⟩ = some (.int .i64 y10) := by rw [Lib.cell_of_heap HY3.out]; rfl
  have e11 : V3.cell? ⟨W.heap.size, 11, none⟩ = some (.int .i64 x11) := by rw [Lib.cell_of_heap HX3.out]; rfl
  have d11 : V3.cell? ⟨W.heap.size + 1, 11, none⟩ = some (.int .i64 y11) := by rw [Lib.cell_of_heap HY3.out]; rfl
  cases β with
  | false =>
    have n2 : ¬ x2 = y2 := fun h => by have := hβ.2 h; cases this
    clear hβ
    have HNE := Lib.hid (show (⟨x0, x1, x2, x3, x4, x5, x6, x7, x8, x9, x10, x11⟩ : ImgD) ≠ ⟨x0, x1, y2, y3, y4, y5, y6, y7, y8, y9, y10, y11⟩ from fun h => n2 (by cases h; rfl))
    clear n2
    go_wp2_with fail
    go_returns
    exact ⟨⟨false, rfl, by simp only [Bool.false_eq_true, false_iff]; exact HNE.out⟩, HB3.out⟩
  | true =>
  have m2 := hβ.1 rfl
  clear hβ
  subst m2
  have hc : Calls Tryz.prog 39 #[.slice pa3 pl3 pc3, .slice qa3 ql3 qc3] V3 _ := sm_ints lim V3 [.slice pa3 pl3 pc3] [.slice qa3 ql3 qc3] x3 y3 (slice_is.2 ⟨_, _, _, rfl, HP3.out.keep (fun k hk => HB3.out.block k (by omega))⟩) (slice_is.2 ⟨_, _, _, rfl, HQ3.out.keep (fun k hk => HB3.out.block k (by omega))⟩) (Nat.le_trans hl HB3.out.size)
  go_wp2_with (go_at_call 39; refine hc.mono ?_)
  first | rintro e V4 ⟨⟨β, rfl, hβ⟩, hb⟩ | rintro e V4 β rfl hβ hb | rintro e V4 ⟨β, rfl, hβ⟩ hb
  have HB4 := Lib.hid (HB3.out.trans (hb.mono HB3.out.size))
  have HX4 := Lib.hid ((hb.block _ (heap_lt HX3.out)).trans HX3.out)
  have HY4 := Lib.hid ((hb.block _ (heap_lt HY3.out)).trans HY3.out)
  clear hc hb
  clear e3 d3 e4 d4 e5 d5 e6 d6 e7 d7 e8 d8 e9 d9 e10 d10 e11 d11
  clear HX3 HY3
  have e4 : V4.cell? ⟨W.heap.size, 4, none⟩ = some (.string x4) := by rw [Lib.cell_of_heap HX4.out]; rfl
  have d4 : V4.cell? ⟨W.heap.size + 1, 4, none⟩ = some (.string y4) := by rw [Lib.cell_of_heap HY4.out]; rfl
  have e5 : V4.cell? ⟨W.heap.size, 5, none⟩ = some (.slice pa5 pl5 pc5) := by rw [Lib.cell_of_heap HX4.out]; rfl
  have d5 : V4.cell? ⟨W.heap.size + 1, 5, none⟩ = some (.slice qa5 ql5 qc5) := by rw [Lib.cell_of_heap HY4.out]; rfl
  have e6 : V4.cell? ⟨W.heap.size, 6, none⟩ = some (.slice pa6 pl6 pc6) := by rw [Lib.cell_of_heap HX4.out]; rfl
  have d6 : V4.cell? ⟨W.heap.size + 1, 6, none⟩ = some (.slice qa6 ql6 qc6) := by rw [Lib.cell_of_heap HY4.out]; rfl
  have e7 : V4.cell? ⟨W.heap.size, 7, none⟩ = some (.slice pa7 pl7 pc7) := by rw [Lib.cell_of_heap HX4.out]; rfl
  have d7 : V4.cell? ⟨W.heap.size + 1, 7, none⟩ = some (.slice qa7 ql7 qc7) := by rw [Lib.cell_of_heap HY4.out]; rfl
  have e8 : V4.cell? ⟨W.heap.size, 8, none⟩ = some (.slice pa8 pl8 pc8) := by rw [Lib.cell_of_heap HX4.out]; rfl
  have d8 : V4.cell? ⟨W.heap.size + 1, 8, none⟩ = some (.slice qa8 ql8 qc8) := by rw [Lib.cell_of_heap HY4.out]; rfl
  have e9 : V4.cell? ⟨W.heap.size, 9, none⟩ = some (.slice pa9 pl9 pc9) := by rw [Lib.cell_of_heap HX4.out]; rfl
  have d9 : V4.cell? ⟨W.heap.size + 1, 9, none⟩ = some (.slice qa9 ql9 qc9) := by rw [Lib.cell_of_heap HY4.out]; rfl
  have e10 : V4.cell? ⟨W.heap.size, 10, none⟩ = some (.int .i64 x10) := by rw [Lib.cell_of_heap HX4.out]; rfl
  have d10 : V4.cell? ⟨W.heap.size + 1, 10, none⟩ = some (.int .i64 y10) := by rw [Lib.cell_of_heap HY4.out]; rfl
  have e11 : V4.cell? ⟨W.heap.size, 11, none⟩ = some (.int .i64 x11) := by rw [Lib.cell_of_heap HX4.out]; rfl
  have d11 : V4.cell? ⟨W.heap.size + 1, 11, none⟩ = some (.int .i64 y11) := by rw [Lib.cell_of_heap HY4.out]; rfl
  cases β with
  | false =>
    have n3 : ¬ x3 = y3 := fun h => by have := hβ.2 h; cases this
    clear hβ
    have HNE := Lib.hid (show (⟨x0, x1, x2, x3, x4, x5, x6, x7, x8, x9, x10, x11⟩ : ImgD) ≠ ⟨x0, x1, x2, y3, y4, y5, y6, y7, y8, y9, y10, y11⟩ from fun h => n3 (by cases h; rfl))
    clear n3
    go_wp2_with fail
    go_returns
    exact ⟨⟨false, rfl, by simp only [Bool.false_eq_true, false_iff]; exact HNE.out⟩, HB4.out⟩
  | true =>
  have m3 := hβ.1 rfl
  clear hβ
  subst m3
  by_cases m4 : x4 = y4
  rotate_left
  · have n4 := m4
    clear m4
    have b4 := str_ne n4
    have HNE := Lib.hid (show (⟨x0, x1, x2, x3, x4, x5, x6, x7, x8, x9, x10, x11⟩ : ImgD) ≠ ⟨x0, x1, x2, x3, y4, y5, y6, y7, y8, y9, y10, y11⟩ from fun h => n4 (by cases h; rfl))
    clear n4
    go_wp2_with fail
    go_returns
    exact ⟨⟨false, rfl, by simp only [Bool.false_eq_true, false_iff]; exact HNE.out⟩, HB4.out⟩
  subst m4
  have hc : Calls Tryz.prog 39 #[.slice pa5 pl5 pc5, .slice qa5 ql5 qc5] V4 _ := sm_ints lim V4 [.slice pa5 pl5 pc5] [.slice qa5 ql5 qc5] x5 y5 (slice_is.2 ⟨_, _, _, rfl, HP5.out.keep (fun k hk => HB4.out.block k (by omega))⟩) (slice_is.2 ⟨_, _, _, rfl, HQ5.out.keep (fun k hk => HB4.out.block k (by omega))⟩) (Nat.le_trans hl HB4.out.size)
  go_wp2_with (go_at_call 39; refine hc.mono ?_)
  first | rintro e V5 ⟨⟨β, rfl, hβ⟩, hb⟩ | rintro e V5 β rfl hβ hb | rintro e V5 ⟨β, rfl, hβ⟩ hb
  have HB5 := Lib.hid (HB4.out.trans (hb.mono HB4.out.size))
  have HX5 := Lib.hid ((hb.block _ (heap_lt HX4.out)).trans HX4.out)
  have HY5 := Lib.hid ((hb.block _ (heap_lt HY4.out)).trans HY4.out)
  clear hc hb
  clear e4 d4 e5 d5 e6 d6 e7 d7 e8 d8 e9 d9 e10 d10 e11 d11
  clear HX4 HY4
  have e6 : V5.cell? ⟨W.heap.size, 6, none⟩ = some (.slice pa6 pl6 pc6) := by rw [Lib.cell_of_heap HX5.out]; rfl
  have d6 : V5.cell? ⟨W.heap.size + 1, 6, none⟩ = some (.slice qa6 ql6 qc6) := by rw [Lib.cell_of_heap HY5.out]; rfl
  have e7 : V5.cell? ⟨W.heap.size, 7, none⟩ = some (.slice pa7 pl7 pc7) := by rw [Lib.cell_of_heap HX5.out]; rfl
  have d7 : V5.cell? ⟨W.heap.size + 1, 7, none⟩ = some (.slice qa7 ql7 qc7) := by rw [Lib.cell_of_heap HY5.out]; rfl
  have e8 : V5.cell? ⟨W.heap.size, 8, none⟩ = some (.slice pa8 pl8 pc8) := by rw [Lib.cell_of_heap HX5.out]; rfl
  have d8 : V5.cell? ⟨W.heap.size + 1, 8, none⟩ = some (.slice qa8 ql8 qc8) := by rw [Lib.cell_of_heap HY5.out]; rfl
  have e9 : V5.cell? ⟨W.heap.size, 9, none⟩ = some (.slice pa9 pl9 pc9) := by rw [Lib.cell_of_heap HX5.out]; rfl
  have d9 : V5.cell? ⟨W.heap.size + 1, 9, none⟩ = some (.slice qa9 ql9 qc9) := by rw [Lib.cell_of_heap HY5.out]; rfl
  have e10 : V5.cell? ⟨W.heap.size, 10, none⟩ = some (.int .i64 x10) := by rw [Lib.cell_of_heap HX5.out]; rfl
  have d10 : V5.cell? ⟨W.heap.size + 1, 10, none⟩ = some (.int .i64 y10) := by rw [Lib.cell_of_heap HY5.out]; rfl
  have e11 : V5.cell? ⟨W.heap.size, 11, none⟩ = some (.int .i64 x11) := by rw [Lib.cell_of_heap HX5.out]; rfl
  have d11 : V5.cell? ⟨W.heap.size + 1, 11, none⟩ = some (.int .i64 y11) := by rw [Lib.cell_of_heap HY5.out]; rfl
  cases β with
  | false =>
    have n5 : ¬ x5 = y5 := fun h => by have := hβ.2 h; cases this
    clear hβ
    have HNE := Lib.hid (show (⟨x0, x1, x2, x3, x4, x5, x6, x7, x8, x9, x10, x11⟩ : ImgD) ≠ ⟨x0, x1, x2, x3, x4, y5, y6, y7, y8, y9, y10, y11⟩ from fun h => n5 (by cases h; rfl))
    clear n5
    go_wp2_with fail
    go_returns
    exact ⟨⟨false, rfl, by simp only [Bool.false_eq_true, false_iff]; exact HNE.out⟩, HB5.out⟩
  | true =>
  have m5 := hβ.1 rfl
  clear hβ
  subst m5
  have hc : Calls Tryz.prog 39 #[.slice pa6 pl6 pc6, .slice qa6 ql6 qc6] V5 _ := sm_ints lim V5 [.slice pa6 pl6 pc6] [.slice qa6 ql6 qc6] x6 y6 (slice_is.2 ⟨_, _, _, rfl, HP6.out.keep (fun k hk => HB5.out.block k (by omega))⟩) (slice_is.2 ⟨_, _, _, rfl, HQ6.out.keep (fun k hk => HB5.out.block k (by omega))⟩) (Nat.le_trans hl HB5.out.size)
  go_wp2_with (go_at_call 39; refine hc.mono ?_)
  first | rintro e V6 ⟨⟨β, rfl, hβ⟩, hb⟩ | rintro e V6 β rfl hβ hb | rintro e V6 ⟨β, rfl, hβ⟩ hb
  have HB6 := Lib.hid (HB5.out.trans (hb.mono HB5.out.size))
  have HX6 := Lib.hid ((hb.block _ (heap_lt HX5.out)).trans HX5.out)
  have HY6 := Lib.hid ((hb.block _ (heap_lt HY5.out)).trans HY5.out)
  clear hc hb
  clear e6 d6 e7 d7 e8 d8 e9 d9 e10 d10 e11 d11
  clear HX5 HY5
  have e7 : V6.cell? ⟨W.heap.size, 7, none⟩ = some (.slice pa7 pl7 pc7) := by rw [Lib.cell_of_heap HX6.out]; rfl
  have d7 : V6.cell? ⟨W.heap.size + 1, 7, none⟩ = some (.slice qa7 ql7 qc7) := by rw [Lib.cell_of_heap HY6.out]; rfl
  have e8 : V6.cell? ⟨W.heap.size, 8, none⟩ = some (.slice pa8 pl8 pc8) := by rw [Lib.cell_of_heap HX6.out]; rfl
  have d8 : V6.cell? ⟨W.heap.size + 1, 8, none⟩ = some (.slice qa8 ql8 qc8) := by rw [Lib.cell_of_heap HY6.out]; rfl
  have e9 : V6.cell? ⟨W.heap.size, 9, none⟩ = some (.slice pa9 pl9 pc9) := by rw [Lib.cell_of_heap HX6.out]; rfl
  have d9 : V6.cell? ⟨W.heap.size + 1, 9, none⟩ = some (.slice qa9 ql9 qc9) := by rw [Lib.cell_of_heap HY6.out]; rfl
  have e10 : V6.cell? ⟨W.heap.size, 10, none⟩ = some (.int .i64 x10) := by rw [Lib.cell_of_heap HX6.out]; rfl
  have d10 : V6.cell? ⟨W.heap.size + 1, 10, none⟩ = some (.int .i64 y10) := by rw [Lib.cell_of_heap HY6.out]; rfl
  have e11 : V6.cell? ⟨W.heap.size, 11, none⟩ = some (.int .i64 x11) := by rw [Lib.cell_of_heap HX6.out]; rfl
  have d11 : V6.cell? ⟨W.heap.size + 1, 11, none⟩ = some (.int .i64 y11) := by rw [Lib.cell_of_heap HY6.out]; rfl
  cases β with
  | false =>
    have n6 : ¬ x6 = y6 := fun h => by have := hβ.2 h; cases this
    clear hβ
    have HNE := Lib.hid (show (⟨x0, x1, x2, x3, x4, x5, x6, x7, x8, x9, x10, x11⟩ : ImgD) ≠ ⟨x0, x1, x2, x3, x4, x5, y6, y7, y8, y9, y10, y11⟩ from fun h => n6 (by cases h; rfl))
    clear n6
    go_wp2_with fail
    go_returns
    exact ⟨⟨false, rfl, by simp only [Bool.false_eq_true, false_iff]; exact HNE.out⟩, HB6.out⟩
  | true =>
  have m6 := hβ.1 rfl
  clear hβ
  subst m6
  have hc : Calls Tryz.prog 40 #[.slice pa7 pl7 pc7, .slice qa7 ql7 qc7] V6 _ := sm_links lim V6 [.slice pa7 pl7 pc7] [.slice qa7 ql7 qc7] x7 y7 (slice_is.2 ⟨_, _, _, rfl, HP7.out.keep (fun k hk => HB6.out.block k (by omega))⟩) (slice_is.2 ⟨_, _, _, rfl, HQ7.out.keep (fun k hk => HB6.out.block k (by omega))⟩) (Nat.le_trans hl HB6.out.size)
  go_wp2_with (go_at_call 40; refine hc.mono ?_)
  first | rintro e V7 ⟨⟨β, rfl, hβ⟩, hb⟩ | rintro e V7 β rfl hβ hb | rintro e V7 ⟨β, rfl, hβ⟩ hb
  have HB7 := Lib.hid (HB6.out.trans (hb.mono HB6.out.size))
  have HX7 := Lib.hid ((hb.block _ (heap_lt HX6.out)).trans HX6.out)
  have HY7 := Lib.hid ((hb.block _ (heap_lt HY6.out)).trans HY6.out)
  clear hc hb
  clear e7 d7 e8 d8 e9 d9 e10 d10 e11 d11
  clear HX6 HY6
  have e8 : V7.cell? ⟨W.heap.size, 8, none⟩ = some (.slice pa8 pl8 pc8) := by rw [Lib.cell_of_heap HX7.out]; rfl
  have d8 : V7.cell? ⟨W.heap.size + 1, 8, none⟩ = some (.slice qa8 ql8 qc8) := by rw [Lib.cell_of_heap HY7.out]; rfl
  have e9 : V7.cell? ⟨W.heap.size, 9, none⟩ = some (.slice pa9 pl9 pc9) := by rw [Lib.cell_of_heap HX7.out]; rfl
  have d9 : V7.cell? ⟨W.heap.size + 1, 9, none⟩ = some (.slice qa9 ql9 qc9) := by rw [Lib.cell_of_heap HY7.out]; rfl
  have e10 : V7.cell? ⟨W.heap.size, 10, none⟩ = some (.int .i64 x10) := by rw [Lib.cell_of_heap HX7.out]; rfl
  have d10 : V7.cell? ⟨W.heap.size + 1, 10, none⟩ = some (.int .i64 y10) := by rw [Lib.cell_of_heap HY7.out]; rfl
  have e11 : V7.cell? ⟨W.heap.size, 11, none⟩ = some (.int .i64 x11) := by rw [Lib.cell_of_heap HX7.out]; rfl
  have d11 : V7.cell? ⟨W.heap.size + 1, 11, none⟩ = some (.int .i64 y11) := by rw [Lib.cell_of_heap HY7.out]; rfl
  cases β with
  | false =>
    have n7 : ¬ x7 = y7 := fun h => by have := hβ.2 h; cases this
    clear hβ
    have HNE := Lib.hid (show (⟨x0, x1, x2, x3, x4, x5, x6, x7, x8, x9, x10, x11⟩ : ImgD) ≠ ⟨x0, x1, x2, x3, x4, x5, x6, y7, y8, y9, y10, y11⟩ from fun h => n7 (by cases h; rfl))
    clear n7
    go_wp2_with fail
    go_returns
    exact ⟨⟨false, rfl, by simp only [Bool.false_eq_true, false_iff]; exact HNE.out⟩, HB7.out⟩
  | true =>
  have m7 := hβ.1 rfl
  clear hβ
  subst m7
  have hc : Calls Tryz.prog 40 #[.slice pa8 pl8 pc8, .slice qa8 ql8 qc8] V7 _ := sm_links lim V7 [.slice pa8 pl8 pc8] [.slice qa8 ql8 qc8] x8 y8 (slice_is.2 ⟨_, _, _, rfl, HP8.out.keep (fun k hk => HB7.out.block k (by omega))⟩) (slice_is.2 ⟨_, _, _, rfl, HQ8.out.keep (fun k hk => HB7.out.block k (by omega))⟩) (Nat.le_trans hl HB7.out.size)
  go_wp2_with (go_at_call 40; refine hc.mono ?_)
  first | rintro e V8 ⟨⟨β, rfl, hβ⟩, hb⟩ | rintro e V8 β rfl hβ hb | rintro e V8 ⟨β, rfl, hβ⟩ hb
  have HB8 := Lib.hid (HB7.out.trans (hb.mono HB7.out.size))
  have HX8 := Lib.hid ((hb.block _ (heap_lt HX7.out)).trans HX7.out)
  have HY8 := Lib.hid ((hb.block _ (heap_lt HY7.out)).trans HY7.out)
  clear hc hb
  clear e8 d8 e9 d9 e10 d10 e11 d11
  clear HX7 HY7
  have e9 : V8.cell? ⟨W.heap.size, 9, none⟩ = some (.slice pa9 pl9 pc9) := by rw [Lib.cell_of_heap HX8.out]; rfl
  have d9 : V8.cell? ⟨W.heap.size + 1, 9, none⟩ = some (.slice qa9 ql9 qc9) := by rw [Lib.cell_of_heap HY8.out]; rfl
  have e10 : V8.cell? ⟨W.heap.size, 10, none⟩ = some (.int .i64 x10) := by rw [Lib.cell_of_heap HX8.out]; rfl
  have d10 : V8.cell? ⟨W.heap.size + 1, 10, none⟩ = some (.int .i64 y10) := by rw [Lib.cell_of_heap HY8.out]; rfl
  have e11 : V8.cell? ⟨W.heap.size, 11, none⟩ = some (.int .i64 x11) := by rw [Lib.cell_of_heap HX8.out]; rfl
  have d11 : V8.cell? ⟨W.heap.size + 1, 11, none⟩ = some (.int .i64 y11) := by rw [Lib.cell_of_heap HY8.out]; rfl
  cases β with
  | false =>
    have n8 : ¬ x8 = y8 := fun h => by have := hβ.2 h; cases this
    clear hβ
    have HNE := Lib.hid (show (⟨x0, x1, x2, x3, x4, x5, x6, x7, x8, x9, x10, x11⟩ : ImgD) ≠ ⟨x0, x1, x2, x3, x4, x5, x6, x7, y8, y9, y10, y11⟩ from fun h => n8 (by cases h; rfl))
    clear n8
    go_wp2_with fail
    go_returns
    exact ⟨⟨false, rfl, by simp only [Bool.false_eq_true, false_iff]; exact HNE.out⟩, HB8.out⟩
  | true =>
  have m8 := hβ.1 rfl
  clear hβ
  subst m8
  have hc : Calls Tryz.prog 41 #[.slice pa9 pl9 pc9, .slice qa9 ql9 qc9] V8 _ := sm_jobs lim V8 [.slice pa9 pl9 pc9] [.slice qa9 ql9 qc9] x9 y9 (slice_is.2 ⟨_, _, _, rfl, HP9.out.keep (fun k hk => HB8.out.block k (by omega))⟩) (slice_is.2 ⟨_, _, _, rfl, HQ9.out.keep (fun k hk => HB8.out.block k (by omega))⟩) (Nat.le_trans hl HB8.out.size)
  go_wp2_with (go_at_call 41; refine hc.mono ?_)
  first | rintro e V9 ⟨⟨β, rfl, hβ⟩, hb⟩ | rintro e V9 β rfl hβ hb | rintro e V9 ⟨β, rfl, hβ⟩ hb
  have HB9 := Lib.hid (HB8.out.trans (hb.mono HB8.out.size))
  have HX9 := Lib.hid ((hb.block _ (heap_lt HX8.out)).trans HX8.out)
  have HY9 := Lib.hid ((hb.block _ (heap_lt HY8.out)).trans HY8.out)
  clear hc hb
  clear e9 d9 e10 d10 e11 d11
  clear HX8 HY8
  have e10 : V9.cell? ⟨W.heap.size, 10, none⟩ = some (.int .i64 x10) := by rw [Lib.cell_of_heap HX9.out]; rfl
  have d10 : V9.cell? ⟨W.heap.size + 1, 10, none⟩ = some (.int .i64 y10) := by rw [Lib.cell_of_heap HY9.out]; rfl
  have e11 : V9.cell? ⟨W.heap.size, 11, none⟩ = some (.int .i64 x11) := by rw [Lib.cell_of_heap HX9.out]; rfl
  have d11 : V9.cell? ⟨W.heap.size + 1, 11, none⟩ = some (.int .i64 y11) := by rw [Lib.cell_of_heap HY9.out]; rfl
  cases β with
  | false =>
    have n9 : ¬ x9 = y9 := fun h => by have := hβ.2 h; cases this
    clear hβ
    have HNE := Lib.hid (show (⟨x0, x1, x2, x3, x4, x5, x6, x7, x8, x9, x10, x11⟩ : ImgD) ≠ ⟨x0, x1, x2, x3, x4, x5, x6, x7, x8, y9, y10, y11⟩ from fun h => n9 (by cases h; rfl))
    clear n9
    go_wp2_with fail
    go_returns
    exact ⟨⟨false, rfl, by simp only [Bool.false_eq_true, false_iff]; exact HNE.out⟩, HB9.out⟩
  | true =>
  have m9 := hβ.1 rfl
  clear hβ
  subst m9
  by_cases m10 : x10 = y10
  rotate_left
  · have n10 := m10
    clear m10
    have b10 : (x10 == y10) = false := by simp [n10]
    have HNE := Lib.hid (show (⟨x0, x1, x2, x3, x4, x5, x6, x7, x8, x9, x10, x11⟩ : ImgD) ≠ ⟨x0, x1, x2, x3, x4, x5, x6, x7, x8, x9, y10, y11⟩ from fun h => n10 (by cases h; rfl))
    clear n10
    go_wp2_with fail
    go_returns
    exact ⟨⟨false, rfl, by simp only [Bool.false_eq_true, false_iff]; exact HNE.out⟩, HB9.out⟩
  subst m10
  by_cases m11 : x11 = y11
  rotate_left
  · have n11 := m11
    clear m11
    have b11 : (x11 == y11) = false := by simp [n11]
    have HNE := Lib.hid (show (⟨x0, x1, x2, x3, x4, x5, x6, x7, x8, x9, x10, x11⟩ : ImgD) ≠ ⟨x0, x1, x2, x3, x4, x5, x6, x7, x8, x9, x10, y11⟩ from fun h => n11 (by cases h; rfl))
    clear n11
    go_wp2_with fail
    go_returns
    exact ⟨⟨false, rfl, by simp only [Bool.false_eq_true, false_iff]; exact HNE.out⟩, HB9.out⟩
  subst m11
  go_wp2_with fail
  go_returns
  refine ⟨?_, HB9.out⟩
  first | exact ⟨true, rfl, by simp⟩ | rfl
end Go.Proofs.YtoaohoeghlidaaaGreatDoor
