/-
  BlockTimers: the walk.
-/
import Derived.Test.YthlkhlpilaglmaaTimersPlain
namespace Go.Proofs.Ythlkhlpilaglmaa
open Go.ChangeShapes Go.WideShapes Go.ChangeAt Go.RowKit Go.Lib
attribute [local go_sem ↓] Go.wp_at_zero Go.wp_at_succ

/-- a box that holds a block -/
def Box (w : World) (g : Nat) (k : Int) (q l o : Bool) (c : Int) : Prop := w.heap[g]? = some (.cells #[.int .i64 k, .bool q, .bool l, .bool o, .int .i64 c] 23 (0, 0))
theorem Box.keep {w w' : World} {g : Nat} {k c : Int} {q l o : Bool} (h : Box w g k q l o c) (hb : Below w.heap.size w w') : Box w' g k q l o c := (hb.block g (heap_lt h)).trans h
theorem box_made (w : World) (g : Nat) (hg : g = w.heap.size) (k : Int) (q l o : Bool) (c : Int) : Box (w.alloc (.cells #[.int .i64 k, .bool q, .bool l, .bool o, .int .i64 c] 23)) g k q l o c := heap_new hg
theorem Box.alloc {w : World} {g : Nat} {k c : Int} {q l o : Bool} (h : Box w g k q l o c) (O : Obj) : Box (w.alloc O) g k q l o c := (heap_old (heap_lt h)).trans h

theorem froz5 {w : World} {g : Nat} {a0 a1 a2 a3 a4 : Value} {t : TypeId} (h : w.heap[g]? = some (.cells #[a0, a1, a2, a3, a4] t (0, 0))) :
    w.frozen? ⟨g, 0, none⟩ = false ∧ w.frozen? ⟨g, 1, none⟩ = false ∧ w.frozen? ⟨g, 2, none⟩ = false ∧ w.frozen? ⟨g, 3, none⟩ = false ∧ w.frozen? ⟨g, 4, none⟩ = false := by
  simp [World.frozen?, h]
theorem box_set {w : World} {g : Nat} {k c : Int} {q l o : Bool} (h : Box w g k q l o c) (k' : Int) (q' l' o' : Bool) (c' : Int) :
    Box (((((w.setCell ⟨g, 0, none⟩ (.int .i64 k')).setCell ⟨g, 1, none⟩ (.bool q')).setCell ⟨g, 2, none⟩ (.bool l')).setCell ⟨g, 3, none⟩ (.bool o')).setCell ⟨g, 4, none⟩ (.int .i64 c')) g k' q' l' o' c' := set5 h
theorem Box.other {w : World} {g' : Nat} {k c : Int} {q l o : Bool} (h : Box w g' k q l o c) (g : Nat) (v0 v1 v2 v3 v4 : Value) (hne : g ≠ g') :
    Box (((((w.setCell ⟨g, 0, none⟩ v0).setCell ⟨g, 1, none⟩ v1).setCell ⟨g, 2, none⟩ v2).setCell ⟨g, 3, none⟩ v3).setCell ⟨g, 4, none⟩ v4) g' k q l o c := by
  unfold Box at *
  simp [World.setCell, Array.getElem?_modify, hne, h]
theorem below_set {B : Nat} {W w : World} (h : Below B W w) (g : Nat) (v0 v1 v2 v3 v4 : Value) (hg : B ≤ g) :
    Below B W (((((w.setCell ⟨g, 0, none⟩ v0).setCell ⟨g, 1, none⟩ v1).setCell ⟨g, 2, none⟩ v2).setCell ⟨g, 3, none⟩ v3).setCell ⟨g, 4, none⟩ v4) :=
  ((((h.setCell (p := ⟨g, 0, none⟩) hg v0).setCell (p := ⟨g, 1, none⟩) hg v1).setCell (p := ⟨g, 2, none⟩) hg v2).setCell (p := ⟨g, 3, none⟩) hg v3).setCell (p := ⟨g, 4, none⟩) hg v4
set_option maxRecDepth 100000 in
set_option maxHeartbeats 8000000 in
theorem timers_walk (p : Int) (A : Option Addr) (len cap : Nat) (zs : List Int) (w : World) (hz : IsRow .i64 w A len cap zs) :
    Calls Try.prog 4 #[.int .i64 p, .slice A len cap] w fun e w' => e = .returned (.bool true) ∧ Below w.heap.size w w' := by
  by_cases h40 : (40 : Int) < (len : Int)
  · have HZ := Lib.hid hz
    clear hz
    go_enter Try.func4, Try.ntmps4
    go_wp2_with fail
    refine (awake_ _).mono ?_; rintro e w' ⟨rfl, hb⟩
    go_wp2_with fail
    go_ret
    exact ⟨rfl, hb⟩
  · have HZ := Lib.hid hz
    clear hz
    go_enter Try.func4, Try.ntmps4
    go_wp2_with fail
    refine (low_any _ _ (by omega) (by omega) _).mono ?_; rintro e w' ⟨rfl, rfl⟩
    obtain ⟨hp0, hp1⟩ := low_bd p 100 (by omega)
    have hwp : IntKind.i64.wrap (1 + low p 100) = 1 + low p 100 := IntWalk.i64_in _ (by omega)
    have hPb : 1 ≤ 1 + low p 100 ∧ 1 + low p 100 ≤ 100 := by omega
    clear hp0 hp1
    go_wp2_with fail
    generalize 1 + low p 100 = P at *
    clear hwp
    refine (new_ _ _).mono ?_; rintro e w' ⟨rfl, rfl⟩
    go_wp2_with fail
    refine (step_ex _ _ _ _ _ _ _ _ _).mono ?_; rintro e w1 ⟨q1, l1, o1, c1, rfl, H1, hb1⟩
    have h1 := H1.out.symm.trans (on_first hPb)
    simp only [St.mk.injEq] at h1
    obtain ⟨rfl, rfl, rfl, rfl⟩ := h1
    have hB1 : Below w.heap.size w w1 := keepB ((Below.refl _ w).alloc (Nat.le_refl _) _) hb1
    clear H1 hb1
    go_wp2_with fail
    refine (new_ _ _).mono ?_; rintro e w' ⟨rfl, rfl⟩
    go_wp2_with fail
    refine (step_ex _ _ _ _ _ _ _ _ _).mono ?_; rintro e w2 ⟨q2, l2, o2, c2, rfl, H2, hb2⟩
    have h2 := H2.out.symm.trans off_first
    simp only [St.mk.injEq] at h2
    obtain ⟨rfl, rfl, rfl, rfl⟩ := h2
    have hB2 := keepB ((hB1.alloc hB1.size _).alloc (Nat.le_trans hB1.size (by simp)) _) hb2
    have hx2 : Box w2 w1.heap.size 1 false true true 0 := Box.keep (Box.alloc (box_made w1 _ rfl _ _ _ _ _) _) hb2
    clear H2 hb2
    go_wp2_with fail
    refine (step_ex _ _ _ _ _ _ _ _ _).mono ?_; rintro e w3 ⟨q3, l3, o3, c3, rfl, H3, hb3⟩
    have h3 := H3.out.symm.trans (off_second hPb)
    simp only [St.mk.injEq] at h3
    obtain ⟨rfl, rfl, rfl, rfl⟩ := h3
    have hB3 := keepB hB2 hb3
    have hx3 := hx2.keep hb3
    clear H3 hb3 hx2
    go_wp2_with fail
    refine (new_ _ _).mono ?_; rintro e w' ⟨rfl, rfl⟩
    go_wp2_with fail
    refine (step_ex _ _ _ _ _ _ _ _ _).mono ?_; rintro e w4 ⟨q4, l4, o4, c4, rfl, H4, hb4⟩
    have h4 := H4.out.symm.trans (pul_first hPb)
    simp only [St.mk.injEq] at h4
    obtain ⟨rfl, rfl, rfl, rfl⟩ := h4
    have hB4 := keepB ((hB3.alloc hB3.size _).alloc (Nat.le_trans hB3.size (by simp)) _) hb4
    have hx4 := (((hx3.alloc _).alloc _).keep hb4)
    have hy4 : Box w4 w3.heap.size 2 true false false 0 := Box.keep (Box.alloc (box_made w3 _ rfl _ _ _ _ _) _) hb4
    clear H4 hb4
    have hx5 : Box (w4.alloc (.cells #[.int .i64 3, .bool true, .bool true, .bool true, .int .i64 0] 23)) w1.heap.size 1 false true true 0 := hx4.alloc _
    have hy5 : Box (w4.alloc (.cells #[.int .i64 3, .bool true, .bool true, .bool true, .int .i64 0] 23)) w3.heap.size 2 true false false 0 := hy4.alloc _
    have hz5 : Box (w4.alloc (.cells #[.int .i64 3, .bool true, .bool true, .bool true, .int .i64 0] 23)) w4.heap.size 3 true true true 0 := box_made _ _ rfl _ _ _ _ _
    have hB5 := hB4.alloc hB4.size (.cells #[.int .i64 3, .bool true, .bool true, .bool true, .int .i64 0] 23)
    obtain ⟨x0, x1, x2, x3, x4⟩ := cells5 hx5
    obtain ⟨y0, y1, y2, y3, y4⟩ := cells5 hy5
    obtain ⟨z0, z1, z2, z3, z4⟩ := cells5 hz5
    have n13 : w1.heap.size < w3.heap.size := by have := heap_lt hx3; exact this
    have n34 : w3.heap.size < w4.heap.size := heap_lt hy4
    have b1 := hB1.size
    generalize w1.heap.size = g1 at *
    generalize w3.heap.size = g2 at *
    have HX := Lib.hid hx5
    have HY := Lib.hid hy5
    have HV := Lib.hid hz5
    have HB := Lib.hid hB5
    clear hx4 hy4 hx5 hy5 hz5 hB5 hB1 hB2 hB3 hB4 hx3
    go_wp2_with fail
    generalize (w4.alloc (.cells #[.int .i64 3, .bool true, .bool true, .bool true, .int .i64 0] 23)) = W0 at *
    generalize w4.heap.size = g3 at *
    clear x0 x1 x2 x3 x4 y0 y1 y2 y3 y4 z0 z1 z2 z3 z4
    go_loopw [8, 9] (fun t i wr => ∃ (n : Nat) (T c2 c3 : Int) (l2 o2 q3 l3 o3 : Bool), n ≤ len ∧ i = .int .i64 (n : Int) ∧ t = .int .i64 T ∧ (0 ≤ T ∧ T ≤ 20 * n) ∧ Box wr g1 1 (decide (P ≤ T)) true true (mn T P) ∧ Box wr g2 2 (decide (T < P)) l2 o2 c2 ∧ (T < P → c2 = T) ∧ Box wr g3 3 q3 l3 o3 c3 ∧ (T < P → q3 = true ∧ o3 = true ∧ c3 = T) ∧ Below w.heap.size w wr)
      (fun _ i _ => len - (intOf i).toNat)
    case atStart =>
      refine ⟨0, 0, 0, 0, false, false, true, true, true, Nat.zero_le _, rfl, rfl, by omega, ?_, ?_, fun _ => rfl, HV.out, fun _ => ⟨rfl, rfl, rfl⟩, HB.out⟩
      · rw [decide_eq_false (by omega), mn_r' (by omega)]; exact HX.out
      · rw [decide_eq_true (by omega)]; exact HY.out
    case round =>
      obtain ⟨n, T, c2, c3, l2, o2, q3, l3, o3, hn, rfl, rfl, hT, hX, hY, hY2, hV, hV2, hB⟩ := hrel
      clear HX HY HV HB
      by_cases hlt : n < len
      · obtain ⟨x, rfl, hlc, hcm, hzl, hzc, hzw⟩ : ∃ x, A = some x ∧ len ≤ cap ∧ cap ≤ maxLen ∧ zs.length = cap ∧ (∀ i, i < zs.length → w.cell? (x.add i) = some (.int .i64 (zs.getD i 0))) ∧ ∀ n ∈ zs, (Lit.int .i64 n).wf = true := by
          rcases HZ.out with ⟨_, h0, _⟩ | h
          · omega
          · exact h
        obtain ⟨Z, hZ⟩ : ∃ Z, Z = zs.getD n 0 := ⟨_, rfl⟩
        have cz : wr.cell? (x.add n) = some (.int .i64 Z) := hZ ▸ (hB.cell (World.block_lt_of_cell? _ _ (hzc n (by omega)))).trans (hzc n (by omega))
        clear hZ
        have i1 : (n : Int) < (len : Int) := by omega
        have i0 : (0 : Int) ≤ (n : Int) := by omega
        have HX := Lib.hid hX
        have HY := Lib.hid hY
        have HY2 := Lib.hid hY2
        have HV := Lib.hid hV
        have HV2 := Lib.hid hV2
        have HB := Lib.hid hB
        clear hX hY hY2 hV hV2 hB hzc hzw HZ
        go_wp2_with fail
        refine (low_any _ _ (by omega) (by omega) _).mono ?_; rintro e w' ⟨rfl, rfl⟩
        obtain ⟨hd0, hd1⟩ := low_bd Z 20 (by omega)
        generalize low Z 20 = d at *
        have hwt : IntKind.i64.wrap (T + d) = T + d := IntWalk.i64_in _ (by omega)
        go_wp2_with fail
        refine AnyK.start 20 (fun w' => Box w' g1 1 (decide (P ≤ T)) true true (mn T P) ∧ Box w' g2 2 (decide (T < P)) l2 o2 c2 ∧ Box w' g3 3 q3 l3 o3 c3) rfl ⟨HX.out, HY.out, HV.out⟩ (fun hS0 => ?_)
        have hmb : ∃ b, ((n : Int).tmod 2 == 1) = b := ⟨_, rfl⟩
        have htb : ∃ b, decide (T + d < P) = b := ⟨_, rfl⟩
        obtain ⟨b, hb⟩ := hmb
        obtain ⟨t, ht⟩ := htb
        refine AnyK.take (oi := { dst := _, op := _, type := _, pos := _, after := _, guard := _ }) 0 ?_ rfl (by kernel_rfl) (fun _ _ _ h => h) (Or.inl ⟨by rfl, ?_⟩) hS0 ?_
        rotate_left
        · (intro w' hSw; obtain ⟨b1, b2, b3⟩ := hSw; obtain ⟨x0, x1, x2, x3, x4⟩ := cells5 b1; obtain ⟨y0, y1, y2, y3, y4⟩ := cells5 b2; obtain ⟨z0, z1, z2, z3, z4⟩ := cells5 b3; go_simp; with_reducible rfl)
        simp only [Act.put, List.setIfInBounds_toArray, List.set_cons_zero, List.set_cons_succ]
        refine AnyK.take (oi := { dst := _, op := _, type := _, pos := _, after := _, guard := _ }) 1 ?_ rfl (by kernel_rfl) (fun _ _ _ h => h) (Or.inl ⟨by rfl, ?_⟩) hS0 ?_
        rotate_left
        · (intro w' hSw; clear hSw; go_simp; with_reducible rfl)
        simp only [Act.put, List.setIfInBounds_toArray, List.set_cons_zero, List.set_cons_succ]
        refine AnyK.take (oi := { dst := _, op := _, type := _, pos := _, after := _, guard := _ }) 2 ?_ rfl (by kernel_rfl) (fun _ _ _ h => h) (Or.inl ⟨by rfl, ?_⟩) hS0 ?_
        rotate_left
        · (intro w' hSw; clear hSw; go_simp; with_reducible rfl)
        simp only [Act.put, List.setIfInBounds_toArray, List.set_cons_zero, List.set_cons_succ]
        refine AnyK.take (oi := { dst := _, op := _, type := _, pos := _, after := _, guard := _ }) 4 ?_ rfl (by kernel_rfl) (fun _ _ _ h => h) (Or.inl ⟨by rfl, ?_⟩) hS0 ?_
        rotate_left
        · (intro w' hSw; obtain ⟨b1, b2, b3⟩ := hSw; obtain ⟨x0, x1, x2, x3, x4⟩ := cells5 b1; obtain ⟨y0, y1, y2, y3, y4⟩ := cells5 b2; obtain ⟨z0, z1, z2, z3, z4⟩ := cells5 b3; go_simp; with_reducible rfl)
        simp only [Act.put, List.setIfInBounds_toArray, List.set_cons_zero, List.set_cons_succ]
        refine AnyK.take (oi := { dst := _, op := _, type := _, pos := _, after := _, guard := _ }) 5 ?_ rfl (by kernel_rfl) (fun _ _ _ h => h) (Or.inl ⟨by rfl, ?_⟩) hS0 ?_
        rotate_left
        · (intro w' hSw; clear hSw; go_simp; with_reducible rfl)
        simp only [Act.put, List.setIfInBounds_toArray, List.set_cons_zero, List.set_cons_succ]
        refine AnyK.take (oi := { dst := _, op := _, type := _, pos := _, after := _, guard := _ }) 6 ?_ rfl (by kernel_rfl) (fun _ _ _ h => h) (Or.inl ⟨by rfl, ?_⟩) hS0 ?_
        rotate_left
        · (intro w' hSw; clear hSw; go_simp; with_reducible rfl)
        simp only [Act.put, List.setIfInBounds_toArray, List.set_cons_zero, List.set_cons_succ]
        refine AnyK.take (oi := { dst := _, op := _, type := _, pos := _, after := _, guard := _ }) 8 ?_ rfl (by kernel_rfl) (fun _ _ _ h => h) (Or.inl ⟨by rfl, ?_⟩) hS0 ?_
        rotate_left
        · (intro w' hSw; obtain ⟨b1, b2, b3⟩ := hSw; obtain ⟨x0, x1, x2, x3, x4⟩ := cells5 b1; obtain ⟨y0, y1, y2, y3, y4⟩ := cells5 b2; obtain ⟨z0, z1, z2, z3, z4⟩ := cells5 b3; go_simp; with_reducible rfl)
        simp only [Act.put, List.setIfInBounds_toArray, List.set_cons_zero, List.set_cons_succ]
        refine AnyK.take (oi := { dst := _, op := _, type := _, pos := _, after := _, guard := _ }) 9 ?_ rfl (by kernel_rfl) (fun _ _ _ h => h) (Or.inl ⟨by rfl, ?_⟩) hS0 ?_
        rotate_left
        · (intro w' hSw; clear hSw; go_simp; with_reducible rfl)
        simp only [Act.put, List.setIfInBounds_toArray, List.set_cons_zero, List.set_cons_succ]
        refine AnyK.take (oi := { dst := _, op := _, type := _, pos := _, after := _, guard := _ }) 10 ?_ rfl (by kernel_rfl) (fun _ _ _ h => h) (Or.inl ⟨by rfl, ?_⟩) hS0 ?_
        rotate_left
        · (intro w' hSw; clear hSw; go_simp; with_reducible rfl)
        simp only [Act.put, List.setIfInBounds_toArray, List.set_cons_zero, List.set_cons_succ]
        refine AnyK.take (oi := { dst := _, op := _, type := _, pos := _, after := _, guard := _ }) 11 ?_ rfl (by kernel_rfl) (fun _ _ _ h => h) (Or.inl ⟨by rfl, ?_⟩) hS0 ?_
        rotate_left
        · (intro w' hSw; clear hSw; go_simp; with_reducible rfl)
        simp only [Act.put, List.setIfInBounds_toArray, List.set_cons_zero, List.set_cons_succ]
        refine AnyK.take (oi := { dst := _, op := _, type := _, pos := _, after := _, guard := _ }) 17 ?_ rfl (by kernel_rfl) (fun _ _ _ h => h) (Or.inl ⟨by rfl, ?_⟩) hS0 ?_
        rotate_left
        · (intro w' hSw; clear hSw; go_simp; with_reducible rfl)
        simp only [Act.put, List.setIfInBounds_toArray, List.set_cons_zero, List.set_cons_succ]
        refine AnyK.take (oi := { dst := _, op := _, type := _, pos := _, after := _, guard := _ }) 18 ?_ rfl (by kernel_rfl) (fun _ _ _ h => h) (Or.inl ⟨by rfl, ?_⟩) hS0 ?_
        rotate_left
        · (intro w' hSw; clear hSw; go_simp; with_reducible rfl)
        simp only [Act.put, List.setIfInBounds_toArray, List.set_cons_zero, List.set_cons_succ]
        refine AnyK.one 3 (by kernel_rfl) rfl (fun KK hK => ?_)
        go_simp
        refine (step_ex _ _ _ _ _ _ _ _ _).mono ?_; rintro e w5 ⟨q5, l5, o5, c5, rfl, H5, hb5⟩
        have hS5 := (⟨hS0.1.keep hb5, hS0.2.1.keep hb5, hS0.2.2.keep hb5⟩ : Box w5 g1 1 (decide (P ≤ T)) true true (mn T P) ∧ Box w5 g2 2 (decide (T < P)) l2 o2 c2 ∧ Box w5 g3 3 q3 l3 o3 c3)
        refine hK _ _ hS5 ?_
        clear hK
        refine AnyK.one 7 (by kernel_rfl) rfl (fun KK hK => ?_)
        go_simp
        refine (step_ex _ _ _ _ _ _ _ _ _).mono ?_; rintro e w6 ⟨q6, l6, o6, c6, rfl, H6, hb6⟩
        have hS6 := (⟨hS5.1.keep hb6, hS5.2.1.keep hb6, hS5.2.2.keep hb6⟩ : Box w6 g1 1 (decide (P ≤ T)) true true (mn T P) ∧ Box w6 g2 2 (decide (T < P)) l2 o2 c2 ∧ Box w6 g3 3 q3 l3 o3 c3)
        refine hK _ _ hS6 ?_
        clear hK
        cases b <;> cases t
        · refine AnyK.take (oi := { dst := _, op := _, type := _, pos := _, after := _, guard := _ }) 12 ?_ rfl (by kernel_rfl) (fun _ _ _ h => h) (Or.inl ⟨by rfl, ?_⟩) hS6 ?_
          rotate_left
          · (intro w' hSw; clear hSw; go_simp; with_reducible rfl)
          simp only [Act.put, List.setIfInBounds_toArray, List.set_cons_zero, List.set_cons_succ]
          refine AnyK.take (oi := { dst := _, op := _, type := _, pos := _, after := _, guard := _ }) 13 _ rfl (by kernel_rfl) (fun _ _ _ h => h) (Or.inr ⟨by rfl, rfl⟩) hS6 ?_
          simp only [Act.put, List.setIfInBounds_toArray, List.set_cons_zero, List.set_cons_succ]
          refine AnyK.take (oi := { dst := _, op := _, type := _, pos := _, after := _, guard := _ }) 14 _ rfl (by kernel_rfl) (fun _ _ _ h => h) (Or.inr ⟨by rfl, rfl⟩) hS6 ?_
          simp only [Act.put, List.setIfInBounds_toArray, List.set_cons_zero, List.set_cons_succ]
          refine AnyK.take (oi := { dst := _, op := _, type := _, pos := _, after := _, guard := _ }) 15 _ rfl (by kernel_rfl) (fun _ _ _ h => h) (Or.inr ⟨by rfl, rfl⟩) hS6 ?_
          simp only [Act.put, List.setIfInBounds_toArray, List.set_cons_zero, List.set_cons_succ]
          refine AnyK.take (oi := { dst := _, op := _, type := _, pos := _, after := _, guard := _ }) 16 ?_ rfl (by kernel_rfl) (fun _ _ _ h => h) (Or.inl ⟨by rfl, ?_⟩) hS6 ?_
          rotate_left
          · (intro w' hSw; clear hSw; go_simp; with_reducible rfl)
          simp only [Act.put, List.setIfInBounds_toArray, List.set_cons_zero, List.set_cons_succ]
          refine AnyK.one 19 (by kernel_rfl) rfl (fun KK hK => ?_)
          go_simp
          refine (step_ex _ _ _ _ _ _ _ _ _).mono ?_; rintro e w7 ⟨q7, l7, o7, c7, rfl, H7, hb7⟩
          have hS7 := (⟨hS6.1.keep hb7, hS6.2.1.keep hb7, hS6.2.2.keep hb7⟩ : Box w7 g1 1 (decide (P ≤ T)) true true (mn T P) ∧ Box w7 g2 2 (decide (T < P)) l2 o2 c2 ∧ Box w7 g3 3 q3 l3 o3 c3)
          refine hK _ _ hS7 ?_
          clear hK
          obtain ⟨X7, Y7, V7⟩ := hS7
          have B7 := keepB (keepB (keepB HB.out.drew hb5) hb6) hb7
          clear hb5 hb6 hb7 hS0 hS5 hS6
          obtain ⟨m0, m1, m2, m3, m4⟩ := cells5 X7
          obtain ⟨f0, f1, f2, f3, f4⟩ := froz5 X7
          refine AnyK.late 20 (by kernel_rfl) (by kernel_rfl) rfl (fun KK hK => ?_)
          go_simp
          refine hK _ _ ?_
          clear hK m0 m1 m2 m3 m4 f0 f1 f2 f3 f4
          have X20 := box_set X7 1 q5 l5 o5 c5
          have Y20 := Y7.other g1 (.int .i64 1) (.bool q5) (.bool l5) (.bool o5) (.int .i64 c5) (by omega)
          have V20 := V7.other g1 (.int .i64 1) (.bool q5) (.bool l5) (.bool o5) (.int .i64 c5) (by omega)
          have B20 := below_set B7 g1 (.int .i64 1) (.bool q5) (.bool l5) (.bool o5) (.int .i64 c5) (by omega)
          generalize (((((w7.setCell ⟨g1, 0, none⟩ (.int .i64 1)).setCell ⟨g1, 1, none⟩ (.bool q5)).setCell ⟨g1, 2, none⟩ (.bool l5)).setCell ⟨g1, 3, none⟩ (.bool o5)).setCell ⟨g1, 4, none⟩ (.int .i64 c5)) = w20 at *
          obtain ⟨m0, m1, m2, m3, m4⟩ := cells5 Y20
          obtain ⟨f0, f1, f2, f3, f4⟩ := froz5 Y20
          refine AnyK.late 21 (by kernel_rfl) (by kernel_rfl) rfl (fun KK hK => ?_)
          go_simp
          refine hK _ _ ?_
          clear hK m0 m1 m2 m3 m4 f0 f1 f2 f3 f4
          have X21 := X20.other g2 (.int .i64 2) (.bool q6) (.bool l6) (.bool o6) (.int .i64 c6) (by omega)
          have Y21 := box_set Y20 2 q6 l6 o6 c6
          have V21 := V20.other g2 (.int .i64 2) (.bool q6) (.bool l6) (.bool o6) (.int .i64 c6) (by omega)
          have B21 := below_set B20 g2 (.int .i64 2) (.bool q6) (.bool l6) (.bool o6) (.int .i64 c6) (by omega)
          generalize (((((w20.setCell ⟨g2, 0, none⟩ (.int .i64 2)).setCell ⟨g2, 1, none⟩ (.bool q6)).setCell ⟨g2, 2, none⟩ (.bool l6)).setCell ⟨g2, 3, none⟩ (.bool o6)).setCell ⟨g2, 4, none⟩ (.int .i64 c6)) = w21 at *
          obtain ⟨m0, m1, m2, m3, m4⟩ := cells5 V21
          obtain ⟨f0, f1, f2, f3, f4⟩ := froz5 V21
          refine AnyK.late 22 (by kernel_rfl) (by kernel_rfl) rfl (fun KK hK => ?_)
          go_simp
          refine hK _ _ ?_
          clear hK m0 m1 m2 m3 m4 f0 f1 f2 f3 f4
          have X22 := X21.other g3 (.int .i64 3) (.bool q7) (.bool l7) (.bool o7) (.int .i64 c7) (by omega)
          have Y22 := Y21.other g3 (.int .i64 3) (.bool q7) (.bool l7) (.bool o7) (.int .i64 c7) (by omega)
          have V22 := box_set V21 3 q7 l7 o7 c7
          have B22 := below_set B21 g3 (.int .i64 3) (.bool q7) (.bool l7) (.bool o7) (.int .i64 c7) (by omega)
          generalize (((((w21.setCell ⟨g3, 0, none⟩ (.int .i64 3)).setCell ⟨g3, 1, none⟩ (.bool q7)).setCell ⟨g3, 2, none⟩ (.bool l7)).setCell ⟨g3, 3, none⟩ (.bool o7)).setCell ⟨g3, 4, none⟩ (.int .i64 c7)) = w22 at *
          refine AnyK.done (by kernel_rfl) ?_ _
          have ht1 : ¬ T + d < P := by simpa using ht
          have ht2 : decide (P ≤ T + d) = true := decide_eq_true (by omega)
          have ht3 : mn (T + d) P = P := by unfold mn; split <;> omega
          have ht4 : P ≤ T + d ↔ True := by simpa using ht2
          have e5 := H5.out.symm.trans (on_next hPb ⟨hd0, by omega⟩ ⟨hT.1, by omega⟩)
          have e6 := off_next hPb ⟨hd0, by omega⟩ ⟨hT.1, by omega⟩ HY2.out H6.out
          have e7 := pul_next hPb ⟨hd0, by omega⟩ ⟨hT.1, by omega⟩ (fun h => (HV2.out h).2) H7.out
          rw [ht2, ht3] at e5
          simp only [St.mk.injEq] at e5
          obtain ⟨rfl, rfl, rfl, rfl⟩ := e5
          obtain ⟨e6, e6c⟩ := e6
          rw [ht] at e6
          subst e6
          clear H5 H6 H7 HX HY HY2 HV HV2 HB
          obtain ⟨x0, x1, x2, x3, x4⟩ := cells5 X22
          obtain ⟨y0, y1, y2, y3, y4⟩ := cells5 Y22
          obtain ⟨z0, z1, z2, z3, z4⟩ := cells5 V22
          have HX := Lib.hid X22
          have HY := Lib.hid Y22
          have HV := Lib.hid V22
          have HB := Lib.hid B22
          clear X22 Y22 V22 B22 X21 Y21 V21 B21 X20 Y20 V20 B20 X7 Y7 V7 B7
          go_wp2_with fail
          refine ⟨⟨n + 1, T + d, c6, c7, l6, o6, q7, l7, o7, by omega, by go_num, rfl, by omega, ?_, ?_, ?_, HV.out, ?_, HB.out⟩, ?_⟩
          · rw [ht2, ht3]; exact HX.out
          · rw [ht]; exact HY.out
          · exact fun h => absurd h ht1
          · exact fun h => absurd h ht1
          · simp [intOf]; omega
        · refine AnyK.take (oi := { dst := _, op := _, type := _, pos := _, after := _, guard := _ }) 12 ?_ rfl (by kernel_rfl) (fun _ _ _ h => h) (Or.inl ⟨by rfl, ?_⟩) hS6 ?_
          rotate_left
          · (intro w' hSw; clear hSw; go_simp; with_reducible rfl)
          simp only [Act.put, List.setIfInBounds_toArray, List.set_cons_zero, List.set_cons_succ]
          refine AnyK.take (oi := { dst := _, op := _, type := _, pos := _, after := _, guard := _ }) 13 _ rfl (by kernel_rfl) (fun _ _ _ h => h) (Or.inr ⟨by rfl, rfl⟩) hS6 ?_
          simp only [Act.put, List.setIfInBounds_toArray, List.set_cons_zero, List.set_cons_succ]
          refine AnyK.take (oi := { dst := _, op := _, type := _, pos := _, after := _, guard := _ }) 14 _ rfl (by kernel_rfl) (fun _ _ _ h => h) (Or.inr ⟨by rfl, rfl⟩) hS6 ?_
          simp only [Act.put, List.setIfInBounds_toArray, List.set_cons_zero, List.set_cons_succ]
          refine AnyK.take (oi := { dst := _, op := _, type := _, pos := _, after := _, guard := _ }) 15 _ rfl (by kernel_rfl) (fun _ _ _ h => h) (Or.inr ⟨by rfl, rfl⟩) hS6 ?_
          simp only [Act.put, List.setIfInBounds_toArray, List.set_cons_zero, List.set_cons_succ]
          refine AnyK.take (oi := { dst := _, op := _, type := _, pos := _, after := _, guard := _ }) 16 ?_ rfl (by kernel_rfl) (fun _ _ _ h => h) (Or.inl ⟨by rfl, ?_⟩) hS6 ?_
          rotate_left
          · (intro w' hSw; clear hSw; go_simp; with_reducible rfl)
          simp only [Act.put, List.setIfInBounds_toArray, List.set_cons_zero, List.set_cons_succ]
          refine AnyK.one 19 (by kernel_rfl) rfl (fun KK hK => ?_)
          go_simp
          refine (step_ex _ _ _ _ _ _ _ _ _).mono ?_; rintro e w7 ⟨q7, l7, o7, c7, rfl, H7, hb7⟩
          have hS7 := (⟨hS6.1.keep hb7, hS6.2.1.keep hb7, hS6.2.2.keep hb7⟩ : Box w7 g1 1 (decide (P ≤ T)) true true (mn T P) ∧ Box w7 g2 2 (decide (T < P)) l2 o2 c2 ∧ Box w7 g3 3 q3 l3 o3 c3)
          refine hK _ _ hS7 ?_
          clear hK
          obtain ⟨X7, Y7, V7⟩ := hS7
          have B7 := keepB (keepB (keepB HB.out.drew hb5) hb6) hb7
          clear hb5 hb6 hb7 hS0 hS5 hS6
          obtain ⟨m0, m1, m2, m3, m4⟩ := cells5 X7
          obtain ⟨f0, f1, f2, f3, f4⟩ := froz5 X7
          refine AnyK.late 20 (by kernel_rfl) (by kernel_rfl) rfl (fun KK hK => ?_)
          go_simp
          refine hK _ _ ?_
          clear hK m0 m1 m2 m3 m4 f0 f1 f2 f3 f4
          have X20 := box_set X7 1 q5 l5 o5 c5
          have Y20 := Y7.other g1 (.int .i64 1) (.bool q5) (.bool l5) (.bool o5) (.int .i64 c5) (by omega)
          have V20 := V7.other g1 (.int .i64 1) (.bool q5) (.bool l5) (.bool o5) (.int .i64 c5) (by omega)
          have B20 := below_set B7 g1 (.int .i64 1) (.bool q5) (.bool l5) (.bool o5) (.int .i64 c5) (by omega)
          generalize (((((w7.setCell ⟨g1, 0, none⟩ (.int .i64 1)).setCell ⟨g1, 1, none⟩ (.bool q5)).setCell ⟨g1, 2, none⟩ (.bool l5)).setCell ⟨g1, 3, none⟩ (.bool o5)).setCell ⟨g1, 4, none⟩ (.int .i64 c5)) = w20 at *
          obtain ⟨m0, m1, m2, m3, m4⟩ := cells5 Y20
          obtain ⟨f0, f1, f2, f3, f4⟩ := froz5 Y20
          refine AnyK.late 21 (by kernel_rfl) (by kernel_rfl) rfl (fun KK hK => ?_)
          go_simp
          refine hK _ _ ?_
          clear hK m0 m1 m2 m3 m4 f0 f1 f2 f3 f4
          have X21 := X20.other g2 (.int .i64 2) (.bool q6) (.bool l6) (.bool o6) (.int .i64 c6) (by omega)
          have Y21 := box_set Y20 2 q6 l6 o6 c6
          have V21 := V20.other g2 (.int .i64 2) (.bool q6) (.bool l6) (.bool o6) (.int .i64 c6) (by omega)
          have B21 := below_set B20 g2 (.int .i64 2) (.bool q6) (.bool l6) (.bool o6) (.int .i64 c6) (by omega)
          generalize (((((w20.setCell ⟨g2, 0, none⟩ (.int .i64 2)).setCell ⟨g2, 1, none⟩ (.bool q6)).setCell ⟨g2, 2, none⟩ (.bool l6)).setCell ⟨g2, 3, none⟩ (.bool o6)).setCell ⟨g2, 4, none⟩ (.int .i64 c6)) = w21 at *
          obtain ⟨m0, m1, m2, m3, m4⟩ := cells5 V21
          obtain ⟨f0, f1, f2, f3, f4⟩ := froz5 V21
          refine AnyK.late 22 (by kernel_rfl) (by kernel_rfl) rfl (fun KK hK => ?_)
          go_simp
          refine hK _ _ ?_
          clear hK m0 m1 m2 m3 m4 f0 f1 f2 f3 f4
          have X22 := X21.other g3 (.int .i64 3) (.bool q7) (.bool l7) (.bool o7) (.int .i64 c7) (by omega)
          have Y22 := Y21.other g3 (.int .i64 3) (.bool q7) (.bool l7) (.bool o7) (.int .i64 c7) (by omega)
          have V22 := box_set V21 3 q7 l7 o7 c7
          have B22 := below_set B21 g3 (.int .i64 3) (.bool q7) (.bool l7) (.bool o7) (.int .i64 c7) (by omega)
          generalize (((((w21.setCell ⟨g3, 0, none⟩ (.int .i64 3)).setCell ⟨g3, 1, none⟩ (.bool q7)).setCell ⟨g3, 2, none⟩ (.bool l7)).setCell ⟨g3, 3, none⟩ (.bool o7)).setCell ⟨g3, 4, none⟩ (.int .i64 c7)) = w22 at *
          refine AnyK.done (by kernel_rfl) ?_ _
          have ht1 : T + d < P := by simpa using ht
          have ht2 : decide (P ≤ T + d) = false := decide_eq_false (by omega)
          have ht3 : mn (T + d) P = T + d := mn_r' (by omega)
          have ht4 : P ≤ T + d ↔ False := by simpa using ht2
          have e5 := H5.out.symm.trans (on_next hPb ⟨hd0, by omega⟩ ⟨hT.1, by omega⟩)
          have e6 := off_next hPb ⟨hd0, by omega⟩ ⟨hT.1, by omega⟩ HY2.out H6.out
          have e7 := pul_next hPb ⟨hd0, by omega⟩ ⟨hT.1, by omega⟩ (fun h => (HV2.out h).2) H7.out
          rw [ht2, ht3] at e5
          simp only [St.mk.injEq] at e5
          obtain ⟨rfl, rfl, rfl, rfl⟩ := e5
          obtain ⟨e6, e6c⟩ := e6
          rw [ht] at e6
          subst e6
          obtain ⟨rfl, rfl, rfl⟩ := e7 ht1
          have e6d := e6c ht1
          subst e6d
          clear H5 H6 H7 HX HY HY2 HV HV2 HB
          obtain ⟨x0, x1, x2, x3, x4⟩ := cells5 X22
          obtain ⟨y0, y1, y2, y3, y4⟩ := cells5 Y22
          obtain ⟨z0, z1, z2, z3, z4⟩ := cells5 V22
          have HX := Lib.hid X22
          have HY := Lib.hid Y22
          have HV := Lib.hid V22
          have HB := Lib.hid B22
          clear X22 Y22 V22 B22 X21 Y21 V21 B21 X20 Y20 V20 B20 X7 Y7 V7 B7
          go_wp2_with fail
          refine ⟨⟨n + 1, T + d, T + d, T + d, l6, o6, true, l7, true, by omega, by go_num, rfl, by omega, ?_, ?_, ?_, HV.out, ?_, HB.out⟩, ?_⟩
          · rw [ht2, ht3]; exact HX.out
          · rw [ht]; exact HY.out
          · exact fun _ => rfl
          · exact fun _ => ⟨rfl, rfl, rfl⟩
          · simp [intOf]; omega
        · refine AnyK.take (oi := { dst := _, op := _, type := _, pos := _, after := _, guard := _ }) 12 ?_ rfl (by kernel_rfl) (fun _ _ _ h => h) (Or.inl ⟨by rfl, ?_⟩) hS6 ?_
          rotate_left
          · (intro w' hSw; clear hSw; go_simp; with_reducible rfl)
          simp only [Act.put, List.setIfInBounds_toArray, List.set_cons_zero, List.set_cons_succ]
          refine AnyK.take (oi := { dst := _, op := _, type := _, pos := _, after := _, guard := _ }) 13 ?_ rfl (by kernel_rfl) (fun _ _ _ h => h) (Or.inl ⟨by rfl, ?_⟩) hS6 ?_
          rotate_left
          · (intro w' hSw; clear hSw; go_simp; with_reducible rfl)
          simp only [Act.put, List.setIfInBounds_toArray, List.set_cons_zero, List.set_cons_succ]
          refine AnyK.take (oi := { dst := _, op := _, type := _, pos := _, after := _, guard := _ }) 14 ?_ rfl (by kernel_rfl) (fun _ _ _ h => h) (Or.inl ⟨by rfl, ?_⟩) hS6 ?_
          rotate_left
          · (intro w' hSw; clear hSw; go_simp; with_reducible rfl)
          simp only [Act.put, List.setIfInBounds_toArray, List.set_cons_zero, List.set_cons_succ]
          refine AnyK.take (oi := { dst := _, op := _, type := _, pos := _, after := _, guard := _ }) 15 ?_ rfl (by kernel_rfl) (fun _ _ _ h => h) (Or.inl ⟨by rfl, ?_⟩) hS6 ?_
          rotate_left
          · (intro w' hSw; clear hSw; go_simp; with_reducible rfl)
          simp only [Act.put, List.setIfInBounds_toArray, List.set_cons_zero, List.set_cons_succ]
          refine AnyK.take (oi := { dst := _, op := _, type := _, pos := _, after := _, guard := _ }) 16 ?_ rfl (by kernel_rfl) (fun _ _ _ h => h) (Or.inl ⟨by rfl, ?_⟩) hS6 ?_
          rotate_left
          · (intro w' hSw; clear hSw; go_simp; with_reducible rfl)
          simp only [Act.put, List.setIfInBounds_toArray, List.set_cons_zero, List.set_cons_succ]
          refine AnyK.one 19 (by kernel_rfl) rfl (fun KK hK => ?_)
          go_simp
          refine (step_ex _ _ _ _ _ _ _ _ _).mono ?_; rintro e w7 ⟨q7, l7, o7, c7, rfl, H7, hb7⟩
          have hS7 := (⟨hS6.1.keep hb7, hS6.2.1.keep hb7, hS6.2.2.keep hb7⟩ : Box w7 g1 1 (decide (P ≤ T)) true true (mn T P) ∧ Box w7 g2 2 (decide (T < P)) l2 o2 c2 ∧ Box w7 g3 3 q3 l3 o3 c3)
          refine hK _ _ hS7 ?_
          clear hK
          obtain ⟨X7, Y7, V7⟩ := hS7
          have B7 := keepB (keepB (keepB HB.out.drew hb5) hb6) hb7
          clear hb5 hb6 hb7 hS0 hS5 hS6
          obtain ⟨m0, m1, m2, m3, m4⟩ := cells5 X7
          obtain ⟨f0, f1, f2, f3, f4⟩ := froz5 X7
          refine AnyK.late 20 (by kernel_rfl) (by kernel_rfl) rfl (fun KK hK => ?_)
          go_simp
          refine hK _ _ ?_
          clear hK m0 m1 m2 m3 m4 f0 f1 f2 f3 f4
          have X20 := box_set X7 1 q5 l5 o5 c5
          have Y20 := Y7.other g1 (.int .i64 1) (.bool q5) (.bool l5) (.bool o5) (.int .i64 c5) (by omega)
          have V20 := V7.other g1 (.int .i64 1) (.bool q5) (.bool l5) (.bool o5) (.int .i64 c5) (by omega)
          have B20 := below_set B7 g1 (.int .i64 1) (.bool q5) (.bool l5) (.bool o5) (.int .i64 c5) (by omega)
          generalize (((((w7.setCell ⟨g1, 0, none⟩ (.int .i64 1)).setCell ⟨g1, 1, none⟩ (.bool q5)).setCell ⟨g1, 2, none⟩ (.bool l5)).setCell ⟨g1, 3, none⟩ (.bool o5)).setCell ⟨g1, 4, none⟩ (.int .i64 c5)) = w20 at *
          obtain ⟨m0, m1, m2, m3, m4⟩ := cells5 Y20
          obtain ⟨f0, f1, f2, f3, f4⟩ := froz5 Y20
          refine AnyK.late 21 (by kernel_rfl) (by kernel_rfl) rfl (fun KK hK => ?_)
          go_simp
          refine hK _ _ ?_
          clear hK m0 m1 m2 m3 m4 f0 f1 f2 f3 f4
          have X21 := X20.other g2 (.int .i64 2) (.bool q6) (.bool l6) (.bool o6) (.int .i64 c6) (by omega)
          have Y21 := box_set Y20 2 q6 l6 o6 c6
          have V21 := V20.other g2 (.int .i64 2) (.bool q6) (.bool l6) (.bool o6) (.int .i64 c6) (by omega)
          have B21 := below_set B20 g2 (.int .i64 2) (.bool q6) (.bool l6) (.bool o6) (.int .i64 c6) (by omega)
          generalize (((((w20.setCell ⟨g2, 0, none⟩ (.int .i64 2)).setCell ⟨g2, 1, none⟩ (.bool q6)).setCell ⟨g2, 2, none⟩ (.bool l6)).setCell ⟨g2, 3, none⟩ (.bool o6)).setCell ⟨g2, 4, none⟩ (.int .i64 c6)) = w21 at *
          obtain ⟨m0, m1, m2, m3, m4⟩ := cells5 V21
          obtain ⟨f0, f1, f2, f3, f4⟩ := froz5 V21
          refine AnyK.late 22 (by kernel_rfl) (by kernel_rfl) rfl (fun KK hK => ?_)
          go_simp
          refine hK _ _ ?_
          clear hK m0 m1 m2 m3 m4 f0 f1 f2 f3 f4
          have X22 := X21.other g3 (.int .i64 3) (.bool q7) (.bool l7) (.bool o7) (.int .i64 c7) (by omega)
          have Y22 := Y21.other g3 (.int .i64 3) (.bool q7) (.bool l7) (.bool o7) (.int .i64 c7) (by omega)
          have V22 := box_set V21 3 q7 l7 o7 c7
          have B22 := below_set B21 g3 (.int .i64 3) (.bool q7) (.bool l7) (.bool o7) (.int .i64 c7) (by omega)
          generalize (((((w21.setCell ⟨g3, 0, none⟩ (.int .i64 3)).setCell ⟨g3, 1, none⟩ (.bool q7)).setCell ⟨g3, 2, none⟩ (.bool l7)).setCell ⟨g3, 3, none⟩ (.bool o7)).setCell ⟨g3, 4, none⟩ (.int .i64 c7)) = w22 at *
          refine AnyK.done (by kernel_rfl) ?_ _
          have ht1 : ¬ T + d < P := by simpa using ht
          have ht2 : decide (P ≤ T + d) = true := decide_eq_true (by omega)
          have ht3 : mn (T + d) P = P := by unfold mn; split <;> omega
          have ht4 : P ≤ T + d ↔ True := by simpa using ht2
          have e5 := H5.out.symm.trans (on_next hPb ⟨hd0, by omega⟩ ⟨hT.1, by omega⟩)
          have e6 := off_next hPb ⟨hd0, by omega⟩ ⟨hT.1, by omega⟩ HY2.out H6.out
          have e7 := pul_next hPb ⟨hd0, by omega⟩ ⟨hT.1, by omega⟩ (fun h => (HV2.out h).2) H7.out
          rw [ht2, ht3] at e5
          simp only [St.mk.injEq] at e5
          obtain ⟨rfl, rfl, rfl, rfl⟩ := e5
          obtain ⟨e6, e6c⟩ := e6
          rw [ht] at e6
          subst e6
          clear H5 H6 H7 HX HY HY2 HV HV2 HB
          obtain ⟨x0, x1, x2, x3, x4⟩ := cells5 X22
          obtain ⟨y0, y1, y2, y3, y4⟩ := cells5 Y22
          obtain ⟨z0, z1, z2, z3, z4⟩ := cells5 V22
          have HX := Lib.hid X22
          have HY := Lib.hid Y22
          have HV := Lib.hid V22
          have HB := Lib.hid B22
          clear X22 Y22 V22 B22 X21 Y21 V21 B21 X20 Y20 V20 B20 X7 Y7 V7 B7
          go_wp2_with fail
          refine ⟨⟨n + 1, T + d, c6, c7, l6, o6, q7, l7, o7, by omega, by go_num, rfl, by omega, ?_, ?_, ?_, HV.out, ?_, HB.out⟩, ?_⟩
          · rw [ht2, ht3]; exact HX.out
          · rw [ht]; exact HY.out
          · exact fun h => absurd h ht1
          · exact fun h => absurd h ht1
          · simp [intOf]; omega
        · refine AnyK.take (oi := { dst := _, op := _, type := _, pos := _, after := _, guard := _ }) 12 ?_ rfl (by kernel_rfl) (fun _ _ _ h => h) (Or.inl ⟨by rfl, ?_⟩) hS6 ?_
          rotate_left
          · (intro w' hSw; clear hSw; go_simp; with_reducible rfl)
          simp only [Act.put, List.setIfInBounds_toArray, List.set_cons_zero, List.set_cons_succ]
          refine AnyK.take (oi := { dst := _, op := _, type := _, pos := _, after := _, guard := _ }) 13 ?_ rfl (by kernel_rfl) (fun _ _ _ h => h) (Or.inl ⟨by rfl, ?_⟩) hS6 ?_
          rotate_left
          · (intro w' hSw; clear hSw; go_simp; with_reducible rfl)
          simp only [Act.put, List.setIfInBounds_toArray, List.set_cons_zero, List.set_cons_succ]
          refine AnyK.take (oi := { dst := _, op := _, type := _, pos := _, after := _, guard := _ }) 14 ?_ rfl (by kernel_rfl) (fun _ _ _ h => h) (Or.inl ⟨by rfl, ?_⟩) hS6 ?_
          rotate_left
          · (intro w' hSw; clear hSw; go_simp; with_reducible rfl)
          simp only [Act.put, List.setIfInBounds_toArray, List.set_cons_zero, List.set_cons_succ]
          refine AnyK.take (oi := { dst := _, op := _, type := _, pos := _, after := _, guard := _ }) 15 ?_ rfl (by kernel_rfl) (fun _ _ _ h => h) (Or.inl ⟨by rfl, ?_⟩) hS6 ?_
          rotate_left
          · (intro w' hSw; clear hSw; go_simp; with_reducible rfl)
          simp only [Act.put, List.setIfInBounds_toArray, List.set_cons_zero, List.set_cons_succ]
          refine AnyK.take (oi := { dst := _, op := _, type := _, pos := _, after := _, guard := _ }) 16 ?_ rfl (by kernel_rfl) (fun _ _ _ h => h) (Or.inl ⟨by rfl, ?_⟩) hS6 ?_
          rotate_left
          · (intro w' hSw; clear hSw; go_simp; with_reducible rfl)
          simp only [Act.put, List.setIfInBounds_toArray, List.set_cons_zero, List.set_cons_succ]
          refine AnyK.one 19 (by kernel_rfl) rfl (fun KK hK => ?_)
          go_simp
          refine (step_ex _ _ _ _ _ _ _ _ _).mono ?_; rintro e w7 ⟨q7, l7, o7, c7, rfl, H7, hb7⟩
          have hS7 := (⟨hS6.1.keep hb7, hS6.2.1.keep hb7, hS6.2.2.keep hb7⟩ : Box w7 g1 1 (decide (P ≤ T)) true true (mn T P) ∧ Box w7 g2 2 (decide (T < P)) l2 o2 c2 ∧ Box w7 g3 3 q3 l3 o3 c3)
          refine hK _ _ hS7 ?_
          clear hK
          obtain ⟨X7, Y7, V7⟩ := hS7
          have B7 := keepB (keepB (keepB HB.out.drew hb5) hb6) hb7
          clear hb5 hb6 hb7 hS0 hS5 hS6
          obtain ⟨m0, m1, m2, m3, m4⟩ := cells5 X7
          obtain ⟨f0, f1, f2, f3, f4⟩ := froz5 X7
          refine AnyK.late 20 (by kernel_rfl) (by kernel_rfl) rfl (fun KK hK => ?_)
          go_simp
          refine hK _ _ ?_
          clear hK m0 m1 m2 m3 m4 f0 f1 f2 f3 f4
          have X20 := box_set X7 1 q5 l5 o5 c5
          have Y20 := Y7.other g1 (.int .i64 1) (.bool q5) (.bool l5) (.bool o5) (.int .i64 c5) (by omega)
          have V20 := V7.other g1 (.int .i64 1) (.bool q5) (.bool l5) (.bool o5) (.int .i64 c5) (by omega)
          have B20 := below_set B7 g1 (.int .i64 1) (.bool q5) (.bool l5) (.bool o5) (.int .i64 c5) (by omega)
          generalize (((((w7.setCell ⟨g1, 0, none⟩ (.int .i64 1)).setCell ⟨g1, 1, none⟩ (.bool q5)).setCell ⟨g1, 2, none⟩ (.bool l5)).setCell ⟨g1, 3, none⟩ (.bool o5)).setCell ⟨g1, 4, none⟩ (.int .i64 c5)) = w20 at *
          obtain ⟨m0, m1, m2, m3, m4⟩ := cells5 Y20
          obtain ⟨f0, f1, f2, f3, f4⟩ := froz5 Y20
          refine AnyK.late 21 (by kernel_rfl) (by kernel_rfl) rfl (fun KK hK => ?_)
          go_simp
          refine hK _ _ ?_
          clear hK m0 m1 m2 m3 m4 f0 f1 f2 f3 f4
          have X21 := X20.other g2 (.int .i64 2) (.bool q6) (.bool l6) (.bool o6) (.int .i64 c6) (by omega)
          have Y21 := box_set Y20 2 q6 l6 o6 c6
          have V21 := V20.other g2 (.int .i64 2) (.bool q6) (.bool l6) (.bool o6) (.int .i64 c6) (by omega)
          have B21 := below_set B20 g2 (.int .i64 2) (.bool q6) (.bool l6) (.bool o6) (.int .i64 c6) (by omega)
          generalize (((((w20.setCell ⟨g2, 0, none⟩ (.int .i64 2)).setCell ⟨g2, 1, none⟩ (.bool q6)).setCell ⟨g2, 2, none⟩ (.bool l6)).setCell ⟨g2, 3, none⟩ (.bool o6)).setCell ⟨g2, 4, none⟩ (.int .i64 c6)) = w21 at *
          obtain ⟨m0, m1, m2, m3, m4⟩ := cells5 V21
          obtain ⟨f0, f1, f2, f3, f4⟩ := froz5 V21
          refine AnyK.late 22 (by kernel_rfl) (by kernel_rfl) rfl (fun KK hK => ?_)
          go_simp
          refine hK _ _ ?_
          clear hK m0 m1 m2 m3 m4 f0 f1 f2 f3 f4
          have X22 := X21.other g3 (.int .i64 3) (.bool q7) (.bool l7) (.bool o7) (.int .i64 c7) (by omega)
          have Y22 := Y21.other g3 (.int .i64 3) (.bool q7) (.bool l7) (.bool o7) (.int .i64 c7) (by omega)
          have V22 := box_set V21 3 q7 l7 o7 c7
          have B22 := below_set B21 g3 (.int .i64 3) (.bool q7) (.bool l7) (.bool o7) (.int .i64 c7) (by omega)
          generalize (((((w21.setCell ⟨g3, 0, none⟩ (.int .i64 3)).setCell ⟨g3, 1, none⟩ (.bool q7)).setCell ⟨g3, 2, none⟩ (.bool l7)).setCell ⟨g3, 3, none⟩ (.bool o7)).setCell ⟨g3, 4, none⟩ (.int .i64 c7)) = w22 at *
          refine AnyK.done (by kernel_rfl) ?_ _
          have ht1 : T + d < P := by simpa using ht
          have ht2 : decide (P ≤ T + d) = false := decide_eq_false (by omega)
          have ht3 : mn (T + d) P = T + d := mn_r' (by omega)
          have ht4 : P ≤ T + d ↔ False := by simpa using ht2
          have e5 := H5.out.symm.trans (on_next hPb ⟨hd0, by omega⟩ ⟨hT.1, by omega⟩)
          have e6 := off_next hPb ⟨hd0, by omega⟩ ⟨hT.1, by omega⟩ HY2.out H6.out
          have e7 := pul_next hPb ⟨hd0, by omega⟩ ⟨hT.1, by omega⟩ (fun h => (HV2.out h).2) H7.out
          rw [ht2, ht3] at e5
          simp only [St.mk.injEq] at e5
          obtain ⟨rfl, rfl, rfl, rfl⟩ := e5
          obtain ⟨e6, e6c⟩ := e6
          rw [ht] at e6
          subst e6
          obtain ⟨rfl, rfl, rfl⟩ := e7 ht1
          have e6d := e6c ht1
          subst e6d
          clear H5 H6 H7 HX HY HY2 HV HV2 HB
          obtain ⟨x0, x1, x2, x3, x4⟩ := cells5 X22
          obtain ⟨y0, y1, y2, y3, y4⟩ := cells5 Y22
          obtain ⟨z0, z1, z2, z3, z4⟩ := cells5 V22
          have HX := Lib.hid X22
          have HY := Lib.hid Y22
          have HV := Lib.hid V22
          have HB := Lib.hid B22
          clear X22 Y22 V22 B22 X21 Y21 V21 B21 X20 Y20 V20 B20 X7 Y7 V7 B7
          go_wp2_with fail
          refine ⟨⟨n + 1, T + d, T + d, T + d, l6, o6, true, l7, true, by omega, by go_num, rfl, by omega, ?_, ?_, ?_, HV.out, ?_, HB.out⟩, ?_⟩
          · rw [ht2, ht3]; exact HX.out
          · rw [ht]; exact HY.out
          · exact fun _ => rfl
          · exact fun _ => ⟨rfl, rfl, rfl⟩
          · simp [intOf]; omega
      · obtain rfl : n = len := by omega
        have HB := Lib.hid hB
        clear hX hY hY2 hV hV2 hB
        go_wp2_with fail
        refine (awake_ _).mono ?_; rintro e w' ⟨rfl, hb⟩
        go_wp2_with fail
        go_ret
        exact ⟨rfl, keepB HB.out hb⟩
end Go.Proofs.Ythlkhlpilaglmaa
