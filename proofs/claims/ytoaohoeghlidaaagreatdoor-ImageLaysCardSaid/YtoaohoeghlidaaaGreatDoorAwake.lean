/-
  awake: the sample answers as it should.
-/
import Derived.Test.YtoaohoeghlidaaaGreatDoorLay
import Derived.Test.YtoaohoeghlidaaaGreatDoorRead
import Derived.Test.YtoaohoeghlidaaaGreatDoorSame
namespace Go.Proofs.YtoaohoeghlidaaaGreatDoor
open Go.ChangeShapes Go.WideShapes Go.ChangeAt Go.RowKit

/-- the image of D 7 -/
def img7 : ImgD := ⟨[], [], [], [], ⟨#[]⟩, [], [], [], [], [], 7, 0⟩
theorem is_empty {T : Type} (sh : Sh T) (S : Nat → Prop) (W : World) : Row sh S W none 0 [] := Row.nil sh S W none
theorem is7 (S : Nat → Prop) (W : World) : shImg.Is S W [.slice none 0 0, .slice none 0 0, .slice none 0 0, .slice none 0 0, .string ⟨#[]⟩, .slice none 0 0, .slice none 0 0, .slice none 0 0, .slice none 0 0, .slice none 0 0, .int .i64 7, .int .i64 0] img7 :=
  img_is.2 ⟨_, _, _, _, _, _, _, _, _, _, _, _, _, _, _, _, _, _, _, _, _, _, _, _, _, _, _, rfl, Row.nil _ _ _ _, Row.nil _ _ _ _, Row.nil _ _ _ _, Row.nil _ _ _ _, Row.nil _ _ _ _, Row.nil _ _ _ _, Row.nil _ _ _ _, Row.nil _ _ _ _, Row.nil _ _ _ _⟩
set_option maxRecDepth 100000 in
theorem lay7 : (layOf img7).full = false ∧ (layOf img7).bs.length = 57 := by decide +kernel
set_option maxRecDepth 100000 in
theorem readNil : readOk [] = false := by decide +kernel
theorem bytes_of_own {W : World} {lo g n cap : Nat} {bs : List UInt8} (h : W.ownsRow lo 5 1 (.slice (some ⟨g, 0, none⟩) n cap) n (byteCells bs)) : Bytes W W.heap.size (some ⟨g, 0, none⟩) n cap bs := by
  have hl : bs.length = n := by have := h.1; rw [byteCells_len] at this; omega
  obtain ⟨_, hlt, _⟩ := own_type h (k := g) rfl
  rcases h.2 with ⟨hv, _⟩ | ⟨g', cap', cur, hv, _, _, h2, h3, _⟩
  · simp at hv
  · simp at hv
    obtain ⟨rfl, rfl⟩ := hv
    refine ⟨hl, h2, h3, .inr ⟨g, 0, rfl, hlt, fun j c hj => ?_⟩⟩
    have := h.cells (g := g) rfl j (.int .u8 c.toNat) (by simp [byteCells, List.getElem?_map, hj])
    rw [add_at rfl] at this
    exact this
theorem Bytes.lim {W : World} {lim lim' : Nat} {a : Option Addr} {n cap : Nat} {B : List UInt8} (h : Bytes W lim a n cap B) (hl : lim ≤ lim') : Bytes W lim' a n cap B := by
  obtain ⟨h1, h2, h3, h4⟩ := h
  refine ⟨h1, h2, h3, ?_⟩
  rcases h4 with h4 | ⟨bb, o, e, hb, hc⟩
  · exact .inl h4
  · exact .inr ⟨bb, o, e, by omega, hc⟩

set_option maxHeartbeats 3200000 in
set_option maxRecDepth 100000 in
theorem awake_any (W : World) (hE : Env W) : Calls Tryz.prog 8 #[] W fun e W' => e = .returned (.bool true) ∧ Below W.heap.size W W' := by
  have hs0 := hE.size
  have HE := Lib.hid hE
  have hc := lay_any W _ img7 (is7 _ W)
  clear hE
  go_enter Tryz.func8, Tryz.ntmps8
  go_wp2_with (go_at_call 9; refine hc.mono ?_)
  rintro e W1 ⟨hl, hb1⟩
  clear hc
  rcases hl with ⟨hf, _⟩ | ⟨_, g, cap, rfl, ho⟩
  · rw [lay7.1] at hf; cases hf
  have hfr := lay_fresh lay7.1 rfl
  have hl57 := lay7.2
  obtain ⟨bs, hbs⟩ : ∃ bs, (layOf img7).bs = bs := ⟨_, rfl⟩
  rw [hbs] at ho hfr hl57 ⊢
  rw [hl57] at ho ⊢
  have hr := read_any W1 bs _ 57 cap (bytes_of_own ho) (by omega)
  have HB1 := Lib.hid hb1
  clear hbs ho hb1
  go_wp2_with (go_at_call 17; refine hr.mono ?_)
  rintro e W2 ⟨ha, hb2⟩
  clear hr
  replace ha : ∃ vs, e = .returned (.tuple #[.agg vs.toArray, .nilIface]) ∧ shImg.Is (fun k => W1.heap.size ≤ k ∧ k < W2.heap.size) W2 vs (readSt bs).1 := by
    rcases ha with ⟨_, h⟩ | ⟨hno, _⟩
    · exact h
    · rw [hfr.1] at hno; cases hno
  obtain ⟨vs, rfl, hI⟩ := ha
  rw [hfr.2] at hI
  obtain ⟨a0, l0, c0, a1, l1, c1, a2, l2, c2, a3, l3, c3, a5, l5, c5, a6, l6, c6, a7, l7, c7, a8, l8, c8, a9, l9, c9, rfl, f0, f1, f2, f3, f5, f6, f7, f8, f9⟩ := img_is.1 hI
  obtain rfl : l0 = 0 := f0.1.symm
  obtain rfl : l1 = 0 := f1.1.symm
  obtain rfl : l2 = 0 := f2.1.symm
  obtain rfl : l3 = 0 := f3.1.symm
  obtain rfl : l5 = 0 := f5.1.symm
  obtain rfl : l6 = 0 := f6.1.symm
  obtain rfl : l7 = 0 := f7.1.symm
  obtain rfl : l8 = 0 := f8.1.symm
  obtain rfl : l9 = 0 := f9.1.symm
  have HB2 := Lib.hid (HB1.out.trans (hb2.mono HB1.out.size))
  have hone : (#[.slice a0 0 c0, .slice a1 0 c1, .slice a2 0 c2, .slice a3 0 c3, .string ⟨#[]⟩, .slice a5 0 c5, .slice a6 0 c6, .slice a7 0 c7, .slice a8 0 c8, .slice a9 0 c9, .int .i64 7, .int .i64 0] : Array Value).all (·.oneCell') = true := by simp [Value.oneCell']
  have hK : (W2.alloc (.cells #[.slice none 0 0, .slice none 0 0, .slice none 0 0, .slice none 0 0, .string ⟨#[]⟩, .slice none 0 0, .slice none 0 0, .slice none 0 0, .slice none 0 0, .slice none 0 0, .int .i64 0, .int .i64 0] 29)).heap[W2.heap.size]? = some (.cells #[.slice none 0 0, .slice none 0 0, .slice none 0 0, .slice none 0 0, .string ⟨#[]⟩, .slice none 0 0, .slice none 0 0, .slice none 0 0, .slice none 0 0, .slice none 0 0, .int .i64 0, .int .i64 0] 29 (0, 0)) := heap_alloc_new W2 _
  have HK := Lib.hid hK
  have HR := Lib.hid (setRow_same #[.slice a0 0 c0, .slice a1 0 c1, .slice a2 0 c2, .slice a3 0 c3, .string ⟨#[]⟩, .slice a5 0 c5, .slice a6 0 c6, .slice a7 0 c7, .slice a8 0 c8, .slice a9 0 c9, .int .i64 7, .int .i64 0] hK)
  have HB3 := Lib.hid (below_row (HB2.out.alloc HB2.out.size (.cells #[.slice none 0 0, .slice none 0 0, .slice none 0 0, .slice none 0 0, .string ⟨#[]⟩, .slice none 0 0, .slice none 0 0, .slice none 0 0, .slice none 0 0, .slice none 0 0, .int .i64 0, .int .i64 0] 29)) (q := W2.heap.size) HB2.out.size #[.slice a0 0 c0, .slice a1 0 c1, .slice a2 0 c2, .slice a3 0 c3, .string ⟨#[]⟩, .slice a5 0 c5, .slice a6 0 c6, .slice a7 0 c7, .slice a8 0 c8, .slice a9 0 c9, .int .i64 7, .int .i64 0])
  have hs3 : ((W2.alloc (.cells #[.slice none 0 0, .slice none 0 0, .slice none 0 0, .slice none 0 0, .string ⟨#[]⟩, .slice none 0 0, .slice none 0 0, .slice none 0 0, .slice none 0 0, .slice none 0 0, .int .i64 0, .int .i64 0] 29)).setRow W2.heap.size #[.slice a0 0 c0, .slice a1 0 c1, .slice a2 0 c2, .slice a3 0 c3, .string ⟨#[]⟩, .slice a5 0 c5, .slice a6 0 c6, .slice a7 0 c7, .slice a8 0 c8, .slice a9 0 c9, .int .i64 7, .int .i64 0]).heap.size = W2.heap.size + 1 := by rw [size_setRow]; simp
  have hr2 := read_any ((W2.alloc (.cells #[.slice none 0 0, .slice none 0 0, .slice none 0 0, .slice none 0 0, .string ⟨#[]⟩, .slice none 0 0, .slice none 0 0, .slice none 0 0, .slice none 0 0, .slice none 0 0, .int .i64 0, .int .i64 0] 29)).setRow W2.heap.size #[.slice a0 0 c0, .slice a1 0 c1, .slice a2 0 c2, .slice a3 0 c3, .string ⟨#[]⟩, .slice a5 0 c5, .slice a6 0 c6, .slice a7 0 c7, .slice a8 0 c8, .slice a9 0 c9, .int .i64 7, .int .i64 0]) [] none 0 0 ⟨rfl, Nat.le_refl _, Nat.zero_le _, .inl ⟨rfl, rfl⟩⟩ (Nat.zero_le _)
  have HS3 := Lib.hid hs3
  clear hI f0 f1 f2 f3 f5 f6 f7 f8 f9 hb2 hK hs3 hfr
  go_wp2_with (first | (refine wpList_store_row rfl 29 (.tmp 3) (.tmp 15) rfl W2.heap.size #[.slice a0 0 c0, .slice a1 0 c1, .slice a2 0 c2, .slice a3 0 c3, .string ⟨#[]⟩, .slice a5 0 c5, .slice a6 0 c6, .slice a7 0 c7, .slice a8 0 c8, .slice a9 0 c9, .int .i64 7, .int .i64 0] rfl rfl 29 #[.slice none 0 0, .slice none 0 0, .slice none 0 0, .slice none 0 0, .string ⟨#[]⟩, .slice none 0 0, .slice none 0 0, .slice none 0 0, .slice none 0 0, .slice none 0 0, .int .i64 0, .int .i64 0] HK.out size29 rfl hone ?_) | (go_at_call 17; refine hr2.mono ?_))
  rintro e W3 ⟨ha, hb3⟩
  clear hr2
  rcases ha with ⟨hyes, _⟩ | ⟨_, ge, rfl, hge⟩
  · rw [readNil] at hyes; cases hyes
  rw [HS3.out] at hb3
  have HR3 := Lib.hid ((hb3.block W2.heap.size (by omega)).trans HR.out)
  have HB4 := Lib.hid (HB3.out.trans (hb3.mono (by have := HB2.out.size; omega)))
  have hge2 := hge
  have hKz : (W3.alloc (.cells #[.slice none 0 0, .slice none 0 0, .slice none 0 0, .slice none 0 0, .string ⟨#[]⟩, .slice none 0 0, .slice none 0 0, .slice none 0 0, .slice none 0 0, .slice none 0 0, .int .i64 0, .int .i64 0] 29)).heap[W3.heap.size]? = some (.cells #[.slice none 0 0, .slice none 0 0, .slice none 0 0, .slice none 0 0, .string ⟨#[]⟩, .slice none 0 0, .slice none 0 0, .slice none 0 0, .slice none 0 0, .slice none 0 0, .int .i64 0, .int .i64 0] 29 (0, 0)) := heap_alloc_new W3 _
  have HKz := Lib.hid hKz
  have hz1 : (#[.slice none 0 0, .slice none 0 0, .slice none 0 0, .slice none 0 0, .string ⟨#[]⟩, .slice none 0 0, .slice none 0 0, .slice none 0 0, .slice none 0 0, .slice none 0 0, .int .i64 0, .int .i64 0] : Array Value).all (·.oneCell') = true := by simp [Value.oneCell']
  have hlt3 := heap_lt HR3.out
  have hltg := heap_lt hge
  have HR4 := Lib.hid ((setRow_other (W3.alloc (.cells #[.slice none 0 0, .slice none 0 0, .slice none 0 0, .slice none 0 0, .string ⟨#[]⟩, .slice none 0 0, .slice none 0 0, .slice none 0 0, .slice none 0 0, .slice none 0 0, .int .i64 0, .int .i64 0] 29)) W3.heap.size #[.slice none 0 0, .slice none 0 0, .slice none 0 0, .slice none 0 0, .string ⟨#[]⟩, .slice none 0 0, .slice none 0 0, .slice none 0 0, .slice none 0 0, .slice none 0 0, .int .i64 0, .int .i64 0] W2.heap.size (by omega)).trans ((Below.heap_alloc W3 (.cells #[.slice none 0 0, .slice none 0 0, .slice none 0 0, .slice none 0 0, .string ⟨#[]⟩, .slice none 0 0, .slice none 0 0, .slice none 0 0, .slice none 0 0, .slice none 0 0, .int .i64 0, .int .i64 0] 29) _ hlt3).trans HR3.out))
  have hge4 := (setRow_other (W3.alloc (.cells #[.slice none 0 0, .slice none 0 0, .slice none 0 0, .slice none 0 0, .string ⟨#[]⟩, .slice none 0 0, .slice none 0 0, .slice none 0 0, .slice none 0 0, .slice none 0 0, .int .i64 0, .int .i64 0] 29)) W3.heap.size #[.slice none 0 0, .slice none 0 0, .slice none 0 0, .slice none 0 0, .string ⟨#[]⟩, .slice none 0 0, .slice none 0 0, .slice none 0 0, .slice none 0 0, .slice none 0 0, .int .i64 0, .int .i64 0] ge (by omega)).trans ((Below.heap_alloc W3 (.cells #[.slice none 0 0, .slice none 0 0, .slice none 0 0, .slice none 0 0, .string ⟨#[]⟩, .slice none 0 0, .slice none 0 0, .slice none 0 0, .slice none 0 0, .slice none 0 0, .int .i64 0, .int .i64 0] 29) _ hltg).trans hge)
  have HB5 := Lib.hid (below_row (HB4.out.alloc HB4.out.size (.cells #[.slice none 0 0, .slice none 0 0, .slice none 0 0, .slice none 0 0, .string ⟨#[]⟩, .slice none 0 0, .slice none 0 0, .slice none 0 0, .slice none 0 0, .slice none 0 0, .int .i64 0, .int .i64 0] 29)) (q := W3.heap.size) HB4.out.size #[.slice none 0 0, .slice none 0 0, .slice none 0 0, .slice none 0 0, .string ⟨#[]⟩, .slice none 0 0, .slice none 0 0, .slice none 0 0, .slice none 0 0, .slice none 0 0, .int .i64 0, .int .i64 0])
  have hcd := code_err 19 ge _ (HE.out.keep HB5.out hs0) hge4
  have e7 : ((W3.alloc (.cells #[.slice none 0 0, .slice none 0 0, .slice none 0 0, .slice none 0 0, .string ⟨#[]⟩, .slice none 0 0, .slice none 0 0, .slice none 0 0, .slice none 0 0, .slice none 0 0, .int .i64 0, .int .i64 0] 29)).setRow W3.heap.size #[.slice none 0 0, .slice none 0 0, .slice none 0 0, .slice none 0 0, .string ⟨#[]⟩, .slice none 0 0, .slice none 0 0, .slice none 0 0, .slice none 0 0, .slice none 0 0, .int .i64 0, .int .i64 0]).cell? ⟨W2.heap.size, 10, none⟩ = some (.int .i64 7) := by rw [Lib.cell_of_heap HR4.out]; rfl
  clear hb3 hge hge2 hKz hge4 hlt3 hltg hone
  go_wp2_with (first | (refine wpList_store_row rfl 29 (.tmp 5) (.tmp 19) rfl W3.heap.size #[.slice none 0 0, .slice none 0 0, .slice none 0 0, .slice none 0 0, .string ⟨#[]⟩, .slice none 0 0, .slice none 0 0, .slice none 0 0, .slice none 0 0, .slice none 0 0, .int .i64 0, .int .i64 0] rfl rfl 29 #[.slice none 0 0, .slice none 0 0, .slice none 0 0, .slice none 0 0, .string ⟨#[]⟩, .slice none 0 0, .slice none 0 0, .slice none 0 0, .slice none 0 0, .slice none 0 0, .int .i64 0, .int .i64 0] HKz.out size29 rfl hz1 ?_) | (go_at_call 12; refine hcd.mono ?_))
  rintro e W5 ⟨rfl, hb5⟩
  have hs5 := HB5.out.size
  have HR5 := Lib.hid ((hb5.block _ (heap_lt HR4.out)).trans HR4.out)
  have HB6 := Lib.hid (HB5.out.trans (hb5.mono hs5))
  clear hcd hb5 e7 hz1
  have q0 : W5.cell? ⟨W2.heap.size, 0, none⟩ = some (.slice a0 0 c0) := by rw [Lib.cell_of_heap HR5.out]; rfl
  have q1 : W5.cell? ⟨W2.heap.size, 1, none⟩ = some (.slice a1 0 c1) := by rw [Lib.cell_of_heap HR5.out]; rfl
  have q2 : W5.cell? ⟨W2.heap.size, 2, none⟩ = some (.slice a2 0 c2) := by rw [Lib.cell_of_heap HR5.out]; rfl
  have q3 : W5.cell? ⟨W2.heap.size, 3, none⟩ = some (.slice a3 0 c3) := by rw [Lib.cell_of_heap HR5.out]; rfl
  have q4 : W5.cell? ⟨W2.heap.size, 4, none⟩ = some (.string ⟨#[]⟩) := by rw [Lib.cell_of_heap HR5.out]; rfl
  have q5 : W5.cell? ⟨W2.heap.size, 5, none⟩ = some (.slice a5 0 c5) := by rw [Lib.cell_of_heap HR5.out]; rfl
  have q6 : W5.cell? ⟨W2.heap.size, 6, none⟩ = some (.slice a6 0 c6) := by rw [Lib.cell_of_heap HR5.out]; rfl
  have q7 : W5.cell? ⟨W2.heap.size, 7, none⟩ = some (.slice a7 0 c7) := by rw [Lib.cell_of_heap HR5.out]; rfl
  have q8 : W5.cell? ⟨W2.heap.size, 8, none⟩ = some (.slice a8 0 c8) := by rw [Lib.cell_of_heap HR5.out]; rfl
  have q9 : W5.cell? ⟨W2.heap.size, 9, none⟩ = some (.slice a9 0 c9) := by rw [Lib.cell_of_heap HR5.out]; rfl
  have q10 : W5.cell? ⟨W2.heap.size, 10, none⟩ = some (.int .i64 7) := by rw [Lib.cell_of_heap HR5.out]; rfl
  have q11 : W5.cell? ⟨W2.heap.size, 11, none⟩ = some (.int .i64 0) := by rw [Lib.cell_of_heap HR5.out]; rfl
  go_wp2_with (go_at_call 13; refine (same_seven a0 a1 a2 a3 a5 a6 a7 a8 a9 c0 c1 c2 c3 c5 c6 c7 c8 c9 W5).mono ?_)
  rintro e W6 ⟨rfl, hb6⟩
  have HB7 := Lib.hid (HB6.out.trans (hb6.mono HB6.out.size))
  clear hb6 q0 q1 q2 q3 q4 q5 q6 q7 q8 q9 q10 q11
  go_wp2_with fail
  go_returns
  exact ⟨rfl, HB7.out⟩
end Go.Proofs.YtoaohoeghlidaaaGreatDoor
