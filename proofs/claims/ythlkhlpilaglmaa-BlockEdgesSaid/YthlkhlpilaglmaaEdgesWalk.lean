/-
  BlockEdges: the walk.
-/
import Derived.Test.YthlkhlpilaglmaaTimersWalk
import Derived.Test.YthlkhlpilaglmaaEdgesPlain
import Derived.Deep.Grids
namespace Go.Proofs.Ythlkhlpilaglmaa
open Go.ChangeShapes Go.WideShapes Go.ChangeAt Go.RowKit Go.Lib Go.Joins Go.Deep
attribute [local go_sem ↓] Go.wp_at_zero Go.wp_at_succ

/-- a slice of bools that came in -/
def IsRowB (w : World) (a : Option Addr) (len cap : Nat) (B : Nat → Bool) : Prop :=
  (a = none ∧ len = 0 ∧ cap = 0) ∨ ∃ x, a = some x ∧ len ≤ cap ∧ cap ≤ maxLen ∧ ∀ i, i < cap → w.cell? (x.add i) = some (.bool (B i))
theorem open_row_bool {H : Type} {enc : TypeId × Value → H} {P : Program} {w : World} {base : Nat} {held : Bool} {t e : TypeId} {a : Option Addr} {len cap : Nat} {d : DataW H} {p : List MemPlace} (ht : P.underlying t = some (.slice e)) (he : P.underlying e = some .bool) (hc : P.cellsOf e = 1)
    (h : DataW.Trod enc P w base (fun _ => true) held t (.slice a len cap) d p) : ∃ B, IsRowB w a len cap B := by
  obtain ⟨fuel, hf⟩ := h
  rcases open_bools ht he hc hf with ⟨hcs, _⟩ | ⟨x, l, c, B, hcs, _, hl, hm, _, hcell⟩
  · simp [Value.cells] at hcs
    obtain ⟨rfl, rfl, rfl⟩ := hcs
    exact ⟨fun _ => false, .inl ⟨rfl, rfl, rfl⟩⟩
  · simp [Value.cells] at hcs
    obtain ⟨rfl, rfl, rfl⟩ := hcs
    exact ⟨B, .inr ⟨_, rfl, hl, hm, hcell⟩⟩

theorem four_made (w : World) : Box ((((((((w.alloc (.cells #[.int .i64 4, .bool false, .bool false, .bool false, .int .i64 0] 23)).alloc (.cells #[.int .i64 5, .bool false, .bool false, .bool false, .int .i64 0] 23)).alloc (.cells #[.int .i64 6, .bool false, .bool false, .bool false, .int .i64 0] 23)).alloc (.cells #[.int .i64 7, .bool false, .bool false, .bool false, .int .i64 0] 23)).alloc (.cells #[.int .i64 4, .bool false, .bool false, .bool false, .int .i64 0] 23)).alloc (.cells #[.int .i64 5, .bool false, .bool false, .bool false, .int .i64 0] 23)).alloc (.cells #[.int .i64 6, .bool false, .bool false, .bool false, .int .i64 0] 23)).alloc (.cells #[.int .i64 7, .bool false, .bool false, .bool false, .int .i64 0] 23)) (w.heap.size + 1 + 1 + 1 + 1) 4 false false false 0 ∧ Box ((((((((w.alloc (.cells #[.int .i64 4, .bool false, .bool false, .bool false, .int .i64 0] 23)).alloc (.cells #[.int .i64 5, .bool false, .bool false, .bool false, .int .i64 0] 23)).alloc (.cells #[.int .i64 6, .bool false, .bool false, .bool false, .int .i64 0] 23)).alloc (.cells #[.int .i64 7, .bool false, .bool false, .bool false, .int .i64 0] 23)).alloc (.cells #[.int .i64 4, .bool false, .bool false, .bool false, .int .i64 0] 23)).alloc (.cells #[.int .i64 5, .bool false, .bool false, .bool false, .int .i64 0] 23)).alloc (.cells #[.int .i64 6, .bool false, .bool false, .bool false, .int .i64 0] 23)).alloc (.cells #[.int .i64 7, .bool false, .bool false, .bool false, .int .i64 0] 23)) (w.heap.size + 1 + 1 + 1 + 1 + 1) 5 false false false 0 ∧ Box ((((((((w.alloc (.cells #[.int .i64 4, .bool false, .bool false, .bool false, .int .i64 0] 23)).alloc (.cells #[.int .i64 5, .bool false, .bool false, .bool false, .int .i64 0] 23)).alloc (.cells #[.int .i64 6, .bool false, .bool false, .bool false, .int .i64 0] 23)).alloc (.cells #[.int .i64 7, .bool false, .bool false, .bool false, .int .i64 0] 23)).alloc (.cells #[.int .i64 4, .bool false, .bool false, .bool false, .int .i64 0] 23)).alloc (.cells #[.int .i64 5, .bool false, .bool false, .bool false, .int .i64 0] 23)).alloc (.cells #[.int .i64 6, .bool false, .bool false, .bool false, .int .i64 0] 23)).alloc (.cells #[.int .i64 7, .bool false, .bool false, .bool false, .int .i64 0] 23)) (w.heap.size + 1 + 1 + 1 + 1 + 1 + 1) 6 false false false 0 ∧ Box ((((((((w.alloc (.cells #[.int .i64 4, .bool false, .bool false, .bool false, .int .i64 0] 23)).alloc (.cells #[.int .i64 5, .bool false, .bool false, .bool false, .int .i64 0] 23)).alloc (.cells #[.int .i64 6, .bool false, .bool false, .bool false, .int .i64 0] 23)).alloc (.cells #[.int .i64 7, .bool false, .bool false, .bool false, .int .i64 0] 23)).alloc (.cells #[.int .i64 4, .bool false, .bool false, .bool false, .int .i64 0] 23)).alloc (.cells #[.int .i64 5, .bool false, .bool false, .bool false, .int .i64 0] 23)).alloc (.cells #[.int .i64 6, .bool false, .bool false, .bool false, .int .i64 0] 23)).alloc (.cells #[.int .i64 7, .bool false, .bool false, .bool false, .int .i64 0] 23)) (w.heap.size + 1 + 1 + 1 + 1 + 1 + 1 + 1) 7 false false false 0 ∧ Below w.heap.size w ((((((((w.alloc (.cells #[.int .i64 4, .bool false, .bool false, .bool false, .int .i64 0] 23)).alloc (.cells #[.int .i64 5, .bool false, .bool false, .bool false, .int .i64 0] 23)).alloc (.cells #[.int .i64 6, .bool false, .bool false, .bool false, .int .i64 0] 23)).alloc (.cells #[.int .i64 7, .bool false, .bool false, .bool false, .int .i64 0] 23)).alloc (.cells #[.int .i64 4, .bool false, .bool false, .bool false, .int .i64 0] 23)).alloc (.cells #[.int .i64 5, .bool false, .bool false, .bool false, .int .i64 0] 23)).alloc (.cells #[.int .i64 6, .bool false, .bool false, .bool false, .int .i64 0] 23)).alloc (.cells #[.int .i64 7, .bool false, .bool false, .bool false, .int .i64 0] 23)) := by
  refine ⟨?_, ?_, ?_, ?_, ?_⟩
  · exact (heap_old (by simp <;> omega)).trans ((heap_old (by simp <;> omega)).trans ((heap_old (by simp)).trans (heap_new (by simp))))
  · exact (heap_old (by simp <;> omega)).trans ((heap_old (by simp)).trans (heap_new (by simp)))
  · exact (heap_old (by simp)).trans (heap_new (by simp))
  · exact heap_new (by simp)
  · exact ((((((((Below.refl _ w).alloc (Nat.le_refl _) _).alloc (by simp; try omega) _).alloc (by simp; try omega) _).alloc (by simp; try omega) _).alloc (by simp; try omega) _).alloc (by simp; try omega) _).alloc (by simp; try omega) _).alloc (by simp; try omega) _

set_option maxRecDepth 100000 in
set_option maxHeartbeats 16000000 in
theorem edges_walk (pv : Int) (A : Option Addr) (len cap : Nat) (B : Nat → Bool) (w : World) (hz : IsRowB w A len cap B) :
    Calls Try.prog 5 #[.slice A len cap, .int .i64 pv] w fun e w' => e = .returned (.bool true) ∧ Below w.heap.size w w' := by
  by_cases h60 : (60 : Int) < (len : Int)
  · have HZ := Lib.hid hz
    clear hz
    go_enter Try.func5, Try.ntmps5
    go_wp2_with fail
    refine (awake_ _).mono ?_; rintro e w' ⟨rfl, hb⟩
    go_wp2_with fail
    go_ret
    exact ⟨rfl, hb⟩
  · have HZ := Lib.hid hz
    clear hz
    go_enter Try.func5, Try.ntmps5
    go_wp2_with fail
    refine (low_any _ _ (by omega) (by omega) _).mono ?_; rintro e w' ⟨rfl, rfl⟩
    obtain ⟨hp0, hp1⟩ := low_bd pv 40 (by omega)
    go_wp2_with fail
    generalize low pv 40 = P at *
    refine (new_ _ _).mono ?_; rintro e w' ⟨rfl, rfl⟩
    go_wp2_with fail
    refine (new_ _ _).mono ?_; rintro e w' ⟨rfl, rfl⟩
    go_wp2_with fail
    refine (new_ _ _).mono ?_; rintro e w' ⟨rfl, rfl⟩
    go_wp2_with fail
    refine (new_ _ _).mono ?_; rintro e w' ⟨rfl, rfl⟩
    go_wp2_with fail
    obtain ⟨hX, hY, hV, hU, hB⟩ := four_made w
    generalize ((((((((w.alloc (.cells #[.int .i64 4, .bool false, .bool false, .bool false, .int .i64 0] 23)).alloc (.cells #[.int .i64 5, .bool false, .bool false, .bool false, .int .i64 0] 23)).alloc (.cells #[.int .i64 6, .bool false, .bool false, .bool false, .int .i64 0] 23)).alloc (.cells #[.int .i64 7, .bool false, .bool false, .bool false, .int .i64 0] 23)).alloc (.cells #[.int .i64 4, .bool false, .bool false, .bool false, .int .i64 0] 23)).alloc (.cells #[.int .i64 5, .bool false, .bool false, .bool false, .int .i64 0] 23)).alloc (.cells #[.int .i64 6, .bool false, .bool false, .bool false, .int .i64 0] 23)).alloc (.cells #[.int .i64 7, .bool false, .bool false, .bool false, .int .i64 0] 23)) = W0 at *
    have b1 : w.heap.size ≤ w.heap.size + 1 + 1 + 1 + 1 := by omega
    generalize hg1 : w.heap.size + 1 + 1 + 1 + 1 = g1 at *
    generalize hg2 : g1 + 1 = g2 at *
    generalize hg3 : g2 + 1 = g3 at *
    generalize hg4 : g3 + 1 = g4 at *
    clear hg1
    have HX := Lib.hid hX
    have HY := Lib.hid hY
    have HV := Lib.hid hV
    have HU := Lib.hid hU
    have HB := Lib.hid hB
    clear hX hY hV hU hB
    go_loopw [9, 10, 11] (fun nn ll i wr => ∃ (k : Nat) (N c2 c3 c4 : Int) (L q1 o1 q2 o2 q3 o3 q4 o4 : Bool), k ≤ len ∧ i = .int .i64 (k : Int) ∧ nn = .int .i64 N ∧ ll = .bool L ∧ (0 ≤ N ∧ N ≤ k) ∧ Box wr g1 4 q1 L o1 N ∧ Box wr g2 5 q2 L o2 c2 ∧ (if o2 then c2 else P) = dn N P ∧ Box wr g3 6 q3 L o3 c3 ∧ Box wr g4 7 q4 L o4 c4 ∧ Below w.heap.size w wr)
      (fun _ _ i _ => len - (intOf i).toNat)
    case atStart =>
      refine ⟨0, 0, 0, 0, 0, false, false, false, false, false, false, false, false, false, Nat.zero_le _, rfl, rfl, rfl, by omega, HX.out, HY.out, ?_, HV.out, HU.out, HB.out⟩
      show P = dn 0 P
      unfold dn
      split <;> omega
    case round =>
      obtain ⟨k, N, c2, c3, c4, L, q1, o1, q2, o2, q3, o3, q4, o4, hk, rfl, rfl, rfl, hN, hX, hY, hD, hV, hU, hB⟩ := hrel
      clear HX HY HV HU HB
      by_cases hlt : k < len
      · obtain ⟨x, rfl, hlc, hcm, hcell⟩ : ∃ x, A = some x ∧ len ≤ cap ∧ cap ≤ maxLen ∧ ∀ i, i < cap → w.cell? (x.add i) = some (.bool (B i)) := by
          rcases HZ.out with ⟨_, h0, _⟩ | h
          · omega
          · exact h
        obtain ⟨I, hI⟩ : ∃ I, I = B k := ⟨_, rfl⟩
        have cz : wr.cell? (x.add k) = some (.bool I) := hI ▸ (hB.cell (World.block_lt_of_cell? _ _ (hcell k (by omega)))).trans (hcell k (by omega))
        clear hI
        have i1 : (k : Int) < (len : Int) := by omega
        have i0 : (0 : Int) ≤ (k : Int) := by omega
        have HX := Lib.hid hX
        have HY := Lib.hid hY
        have HD := Lib.hid hD
        have HV := Lib.hid hV
        have HU := Lib.hid hU
        have HB := Lib.hid hB
        clear hX hY hD hV hU hB hcell HZ
        have hwn : IntKind.i64.wrap (N + 1) = N + 1 := IntWalk.i64_in _ (by omega)
        cases I <;> cases L
        · go_wp2_with fail
          refine AnyK.start 20 (fun w' => Box w' g1 4 q1 false o1 N ∧ Box w' g2 5 q2 false o2 c2 ∧ Box w' g3 6 q3 false o3 c3 ∧ Box w' g4 7 q4 false o4 c4) rfl ⟨HX.out, HY.out, HV.out, HU.out⟩ (fun hS0 => ?_)
          refine AnyK.take (oi := { dst := _, op := _, type := _, pos := _, after := _, guard := _ }) 0 ?_ rfl (by kernel_rfl) (fun _ _ _ h => h) (Or.inl ⟨by rfl, ?_⟩) hS0 ?_
          rotate_left
          · (intro w' hSw; obtain ⟨b1, b2, b3, b4⟩ := hSw; obtain ⟨x0, x1, x2, x3, x4⟩ := cells5 b1; obtain ⟨y0, y1, y2, y3, y4⟩ := cells5 b2; obtain ⟨z0, z1, z2, z3, z4⟩ := cells5 b3; obtain ⟨u0, u1, u2, u3, u4⟩ := cells5 b4; go_simp; with_reducible rfl)
          simp only [Act.put, List.setIfInBounds_toArray, List.set_cons_zero, List.set_cons_succ]
          refine AnyK.take (oi := { dst := _, op := _, type := _, pos := _, after := _, guard := _ }) 1 ?_ rfl (by kernel_rfl) (fun _ _ _ h => h) (Or.inl ⟨by rfl, ?_⟩) hS0 ?_
          rotate_left
          · (intro w' hSw; clear hSw; go_simp; with_reducible rfl)
          simp only [Act.put, List.setIfInBounds_toArray, List.set_cons_zero, List.set_cons_succ]
          refine AnyK.take (oi := { dst := _, op := _, type := _, pos := _, after := _, guard := _ }) 2 ?_ rfl (by kernel_rfl) (fun _ _ _ h => h) (Or.inl ⟨by rfl, ?_⟩) hS0 ?_
          rotate_left
          · (intro w' hSw; clear hSw; go_simp; with_reducible rfl)
          simp only [Act.put, List.setIfInBounds_toArray, List.set_cons_zero, List.set_cons_succ]
          refine AnyK.take (oi := { dst := _, op := _, type := _, pos := _, after := _, guard := _ }) 3 ?_ rfl (by kernel_rfl) (fun _ _ _ h => h) (Or.inl ⟨by rfl, ?_⟩) hS0 ?_
          rotate_left
          · (intro w' hSw; clear hSw; go_simp; with_reducible rfl)
          simp only [Act.put, List.setIfInBounds_toArray, List.set_cons_zero, List.set_cons_succ]
          refine AnyK.take (oi := { dst := _, op := _, type := _, pos := _, after := _, guard := _ }) 5 ?_ rfl (by kernel_rfl) (fun _ _ _ h => h) (Or.inl ⟨by rfl, ?_⟩) hS0 ?_
          rotate_left
          · (intro w' hSw; obtain ⟨b1, b2, b3, b4⟩ := hSw; obtain ⟨x0, x1, x2, x3, x4⟩ := cells5 b1; obtain ⟨y0, y1, y2, y3, y4⟩ := cells5 b2; obtain ⟨z0, z1, z2, z3, z4⟩ := cells5 b3; obtain ⟨u0, u1, u2, u3, u4⟩ := cells5 b4; go_simp; with_reducible rfl)
          simp only [Act.put, List.setIfInBounds_toArray, List.set_cons_zero, List.set_cons_succ]
          refine AnyK.take (oi := { dst := _, op := _, type := _, pos := _, after := _, guard := _ }) 6 ?_ rfl (by kernel_rfl) (fun _ _ _ h => h) (Or.inl ⟨by rfl, ?_⟩) hS0 ?_
          rotate_left
          · (intro w' hSw; clear hSw; go_simp; with_reducible rfl)
          simp only [Act.put, List.setIfInBounds_toArray, List.set_cons_zero, List.set_cons_succ]
          refine AnyK.take (oi := { dst := _, op := _, type := _, pos := _, after := _, guard := _ }) 7 ?_ rfl (by kernel_rfl) (fun _ _ _ h => h) (Or.inl ⟨by rfl, ?_⟩) hS0 ?_
          rotate_left
          · (intro w' hSw; clear hSw; go_simp; with_reducible rfl)
          simp only [Act.put, List.setIfInBounds_toArray, List.set_cons_zero, List.set_cons_succ]
          refine AnyK.take (oi := { dst := _, op := _, type := _, pos := _, after := _, guard := _ }) 8 ?_ rfl (by kernel_rfl) (fun _ _ _ h => h) (Or.inl ⟨by rfl, ?_⟩) hS0 ?_
          rotate_left
          · (intro w' hSw; clear hSw; go_simp; with_reducible rfl)
          simp only [Act.put, List.setIfInBounds_toArray, List.set_cons_zero, List.set_cons_succ]
          refine AnyK.take (oi := { dst := _, op := _, type := _, pos := _, after := _, guard := _ }) 10 ?_ rfl (by kernel_rfl) (fun _ _ _ h => h) (Or.inl ⟨by rfl, ?_⟩) hS0 ?_
          rotate_left
          · (intro w' hSw; obtain ⟨b1, b2, b3, b4⟩ := hSw; obtain ⟨x0, x1, x2, x3, x4⟩ := cells5 b1; obtain ⟨y0, y1, y2, y3, y4⟩ := cells5 b2; obtain ⟨z0, z1, z2, z3, z4⟩ := cells5 b3; obtain ⟨u0, u1, u2, u3, u4⟩ := cells5 b4; go_simp; with_reducible rfl)
          simp only [Act.put, List.setIfInBounds_toArray, List.set_cons_zero, List.set_cons_succ]
          refine AnyK.take (oi := { dst := _, op := _, type := _, pos := _, after := _, guard := _ }) 11 ?_ rfl (by kernel_rfl) (fun _ _ _ h => h) (Or.inl ⟨by rfl, ?_⟩) hS0 ?_
          rotate_left
          · (intro w' hSw; clear hSw; go_simp; with_reducible rfl)
          simp only [Act.put, List.setIfInBounds_toArray, List.set_cons_zero, List.set_cons_succ]
          refine AnyK.take (oi := { dst := _, op := _, type := _, pos := _, after := _, guard := _ }) 12 ?_ rfl (by kernel_rfl) (fun _ _ _ h => h) (Or.inl ⟨by rfl, ?_⟩) hS0 ?_
          rotate_left
          · (intro w' hSw; clear hSw; go_simp; with_reducible rfl)
          simp only [Act.put, List.setIfInBounds_toArray, List.set_cons_zero, List.set_cons_succ]
          refine AnyK.take (oi := { dst := _, op := _, type := _, pos := _, after := _, guard := _ }) 13 ?_ rfl (by kernel_rfl) (fun _ _ _ h => h) (Or.inl ⟨by rfl, ?_⟩) hS0 ?_
          rotate_left
          · (intro w' hSw; clear hSw; go_simp; with_reducible rfl)
          simp only [Act.put, List.setIfInBounds_toArray, List.set_cons_zero, List.set_cons_succ]
          refine AnyK.take (oi := { dst := _, op := _, type := _, pos := _, after := _, guard := _ }) 15 ?_ rfl (by kernel_rfl) (fun _ _ _ h => h) (Or.inl ⟨by rfl, ?_⟩) hS0 ?_
          rotate_left
          · (intro w' hSw; obtain ⟨b1, b2, b3, b4⟩ := hSw; obtain ⟨x0, x1, x2, x3, x4⟩ := cells5 b1; obtain ⟨y0, y1, y2, y3, y4⟩ := cells5 b2; obtain ⟨z0, z1, z2, z3, z4⟩ := cells5 b3; obtain ⟨u0, u1, u2, u3, u4⟩ := cells5 b4; go_simp; with_reducible rfl)
          simp only [Act.put, List.setIfInBounds_toArray, List.set_cons_zero, List.set_cons_succ]
          refine AnyK.take (oi := { dst := _, op := _, type := _, pos := _, after := _, guard := _ }) 16 ?_ rfl (by kernel_rfl) (fun _ _ _ h => h) (Or.inl ⟨by rfl, ?_⟩) hS0 ?_
          rotate_left
          · (intro w' hSw; clear hSw; go_simp; with_reducible rfl)
          simp only [Act.put, List.setIfInBounds_toArray, List.set_cons_zero, List.set_cons_succ]
          refine AnyK.take (oi := { dst := _, op := _, type := _, pos := _, after := _, guard := _ }) 17 ?_ rfl (by kernel_rfl) (fun _ _ _ h => h) (Or.inl ⟨by rfl, ?_⟩) hS0 ?_
          rotate_left
          · (intro w' hSw; clear hSw; go_simp; with_reducible rfl)
          simp only [Act.put, List.setIfInBounds_toArray, List.set_cons_zero, List.set_cons_succ]
          refine AnyK.take (oi := { dst := _, op := _, type := _, pos := _, after := _, guard := _ }) 18 ?_ rfl (by kernel_rfl) (fun _ _ _ h => h) (Or.inl ⟨by rfl, ?_⟩) hS0 ?_
          rotate_left
          · (intro w' hSw; clear hSw; go_simp; with_reducible rfl)
          simp only [Act.put, List.setIfInBounds_toArray, List.set_cons_zero, List.set_cons_succ]
          refine AnyK.one 4 (by kernel_rfl) rfl (fun KK hK => ?_)
          go_simp
          refine (step_ex _ _ _ _ _ _ _ _ _).mono ?_; rintro e w5 ⟨q5, l5, o5, c5, rfl, H5, hb5⟩
          have hS5 := (⟨hS0.1.keep hb5, hS0.2.1.keep hb5, hS0.2.2.1.keep hb5, hS0.2.2.2.keep hb5⟩ : Box w5 g1 4 q1 false o1 N ∧ Box w5 g2 5 q2 false o2 c2 ∧ Box w5 g3 6 q3 false o3 c3 ∧ Box w5 g4 7 q4 false o4 c4)
          refine hK _ _ hS5 ?_
          clear hK
          refine AnyK.one 9 (by kernel_rfl) rfl (fun KK hK => ?_)
          go_simp
          refine (step_ex _ _ _ _ _ _ _ _ _).mono ?_; rintro e w6 ⟨q6, l6, o6, c6, rfl, H6, hb6⟩
          have hS6 := (⟨hS5.1.keep hb6, hS5.2.1.keep hb6, hS5.2.2.1.keep hb6, hS5.2.2.2.keep hb6⟩ : Box w6 g1 4 q1 false o1 N ∧ Box w6 g2 5 q2 false o2 c2 ∧ Box w6 g3 6 q3 false o3 c3 ∧ Box w6 g4 7 q4 false o4 c4)
          refine hK _ _ hS6 ?_
          clear hK
          refine AnyK.one 14 (by kernel_rfl) rfl (fun KK hK => ?_)
          go_simp
          refine (step_ex _ _ _ _ _ _ _ _ _).mono ?_; rintro e w7 ⟨q7, l7, o7, c7, rfl, H7, hb7⟩
          have hS7 := (⟨hS6.1.keep hb7, hS6.2.1.keep hb7, hS6.2.2.1.keep hb7, hS6.2.2.2.keep hb7⟩ : Box w7 g1 4 q1 false o1 N ∧ Box w7 g2 5 q2 false o2 c2 ∧ Box w7 g3 6 q3 false o3 c3 ∧ Box w7 g4 7 q4 false o4 c4)
          refine hK _ _ hS7 ?_
          clear hK
          refine AnyK.one 19 (by kernel_rfl) rfl (fun KK hK => ?_)
          go_simp
          refine (step_ex _ _ _ _ _ _ _ _ _).mono ?_; rintro e w8 ⟨q8, l8, o8, c8, rfl, H8, hb8⟩
          have hS8 := (⟨hS7.1.keep hb8, hS7.2.1.keep hb8, hS7.2.2.1.keep hb8, hS7.2.2.2.keep hb8⟩ : Box w8 g1 4 q1 false o1 N ∧ Box w8 g2 5 q2 false o2 c2 ∧ Box w8 g3 6 q3 false o3 c3 ∧ Box w8 g4 7 q4 false o4 c4)
          refine hK _ _ hS8 ?_
          clear hK
          obtain ⟨X8, Y8, V8, U8⟩ := hS8
          have B8 := keepB (keepB (keepB (keepB HB.out.drew hb5) hb6) hb7) hb8
          clear hb5 hb6 hb7 hb8 hS0 hS5 hS6 hS7
          obtain ⟨m0, m1, m2, m3, m4⟩ := cells5 X8
          obtain ⟨f0, f1, f2, f3, f4⟩ := froz5 X8
          refine AnyK.late 20 (by kernel_rfl) (by kernel_rfl) rfl (fun KK hK => ?_)
          go_simp
          refine hK _ _ ?_
          clear hK m0 m1 m2 m3 m4 f0 f1 f2 f3 f4
          have X20 := box_set X8 4 q5 l5 o5 c5
          have Y20 := Y8.other g1 (.int .i64 4) (.bool q5) (.bool l5) (.bool o5) (.int .i64 c5) (by omega)
          have V20 := V8.other g1 (.int .i64 4) (.bool q5) (.bool l5) (.bool o5) (.int .i64 c5) (by omega)
          have U20 := U8.other g1 (.int .i64 4) (.bool q5) (.bool l5) (.bool o5) (.int .i64 c5) (by omega)
          have B20 := below_set B8 g1 (.int .i64 4) (.bool q5) (.bool l5) (.bool o5) (.int .i64 c5) (by omega)
          generalize (((((w8.setCell ⟨g1, 0, none⟩ (.int .i64 4)).setCell ⟨g1, 1, none⟩ (.bool q5)).setCell ⟨g1, 2, none⟩ (.bool l5)).setCell ⟨g1, 3, none⟩ (.bool o5)).setCell ⟨g1, 4, none⟩ (.int .i64 c5)) = w20 at *
          clear X8 Y8 V8 U8 B8
          obtain ⟨m0, m1, m2, m3, m4⟩ := cells5 Y20
          obtain ⟨f0, f1, f2, f3, f4⟩ := froz5 Y20
          refine AnyK.late 21 (by kernel_rfl) (by kernel_rfl) rfl (fun KK hK => ?_)
          go_simp
          refine hK _ _ ?_
          clear hK m0 m1 m2 m3 m4 f0 f1 f2 f3 f4
          have X21 := X20.other g2 (.int .i64 5) (.bool q6) (.bool l6) (.bool o6) (.int .i64 c6) (by omega)
          have Y21 := box_set Y20 5 q6 l6 o6 c6
          have V21 := V20.other g2 (.int .i64 5) (.bool q6) (.bool l6) (.bool o6) (.int .i64 c6) (by omega)
          have U21 := U20.other g2 (.int .i64 5) (.bool q6) (.bool l6) (.bool o6) (.int .i64 c6) (by omega)
          have B21 := below_set B20 g2 (.int .i64 5) (.bool q6) (.bool l6) (.bool o6) (.int .i64 c6) (by omega)
          generalize (((((w20.setCell ⟨g2, 0, none⟩ (.int .i64 5)).setCell ⟨g2, 1, none⟩ (.bool q6)).setCell ⟨g2, 2, none⟩ (.bool l6)).setCell ⟨g2, 3, none⟩ (.bool o6)).setCell ⟨g2, 4, none⟩ (.int .i64 c6)) = w21 at *
          clear X20 Y20 V20 U20 B20
          obtain ⟨m0, m1, m2, m3, m4⟩ := cells5 V21
          obtain ⟨f0, f1, f2, f3, f4⟩ := froz5 V21
          refine AnyK.late 22 (by kernel_rfl) (by kernel_rfl) rfl (fun KK hK => ?_)
          go_simp
          refine hK _ _ ?_
          clear hK m0 m1 m2 m3 m4 f0 f1 f2 f3 f4
          have X22 := X21.other g3 (.int .i64 6) (.bool q7) (.bool l7) (.bool o7) (.int .i64 c7) (by omega)
          have Y22 := Y21.other g3 (.int .i64 6) (.bool q7) (.bool l7) (.bool o7) (.int .i64 c7) (by omega)
          have V22 := box_set V21 6 q7 l7 o7 c7
          have U22 := U21.other g3 (.int .i64 6) (.bool q7) (.bool l7) (.bool o7) (.int .i64 c7) (by omega)
          have B22 := below_set B21 g3 (.int .i64 6) (.bool q7) (.bool l7) (.bool o7) (.int .i64 c7) (by omega)
          generalize (((((w21.setCell ⟨g3, 0, none⟩ (.int .i64 6)).setCell ⟨g3, 1, none⟩ (.bool q7)).setCell ⟨g3, 2, none⟩ (.bool l7)).setCell ⟨g3, 3, none⟩ (.bool o7)).setCell ⟨g3, 4, none⟩ (.int .i64 c7)) = w22 at *
          clear X21 Y21 V21 U21 B21
          obtain ⟨m0, m1, m2, m3, m4⟩ := cells5 U22
          obtain ⟨f0, f1, f2, f3, f4⟩ := froz5 U22
          refine AnyK.late 23 (by kernel_rfl) (by kernel_rfl) rfl (fun KK hK => ?_)
          go_simp
          refine hK _ _ ?_
          clear hK m0 m1 m2 m3 m4 f0 f1 f2 f3 f4
          have X23 := X22.other g4 (.int .i64 7) (.bool q8) (.bool l8) (.bool o8) (.int .i64 c8) (by omega)
          have Y23 := Y22.other g4 (.int .i64 7) (.bool q8) (.bool l8) (.bool o8) (.int .i64 c8) (by omega)
          have V23 := V22.other g4 (.int .i64 7) (.bool q8) (.bool l8) (.bool o8) (.int .i64 c8) (by omega)
          have U23 := box_set U22 7 q8 l8 o8 c8
          have B23 := below_set B22 g4 (.int .i64 7) (.bool q8) (.bool l8) (.bool o8) (.int .i64 c8) (by omega)
          generalize (((((w22.setCell ⟨g4, 0, none⟩ (.int .i64 7)).setCell ⟨g4, 1, none⟩ (.bool q8)).setCell ⟨g4, 2, none⟩ (.bool l8)).setCell ⟨g4, 3, none⟩ (.bool o8)).setCell ⟨g4, 4, none⟩ (.int .i64 c8)) = w23 at *
          clear X22 Y22 V22 U22 B22
          refine AnyK.done (by kernel_rfl) ?_ _
          have e5 := (up_next (N := N) ⟨hN.1, by omega⟩ ⟨hp0, by omega⟩ rfl).symm.trans H5.out
          have e6 := (dn_next (N := N) ⟨hN.1, by omega⟩ ⟨hp0, by omega⟩ rfl HD.out).symm.trans H6.out
          have e7 := rise_next.symm.trans H7.out
          have e8 := fall_next.symm.trans H8.out
          simp only [St.mk.injEq] at e5 e6 e7 e8
          obtain ⟨e5q, rfl, rfl, rfl⟩ := e5
          obtain ⟨e6q, rfl, rfl, e6c⟩ := e6
          obtain ⟨rfl, rfl, rfl, rfl⟩ := e7
          obtain ⟨rfl, rfl, rfl, rfl⟩ := e8
          clear H5 H6 H7 H8 HX HY HV HU HB HD
          have hD' : (if true = true then c6 else P) = dn N P := by rw [← e6c]; rfl
          rcases Int.lt_trichotomy P N with hABC | hABC | hABC
          · have hc : P < N := by omega
            have g1' : decide (P ≤ N) = true := decide_eq_true (by omega)
            have g2' : dn N P = 0 := if_pos (by omega)
            have g3' : IntKind.i64.wrap (P - N) = P - N := IntWalk.i64_in _ (by omega)
            have g4' : P - N < 0 := by omega
            have g5' : P ≤ N := by omega
            rw [g1'] at e5q
            rw [g2'] at e6q e6c
            rw [show ((0 : Int) == 0) = true from rfl] at e6q
            subst e5q e6c e6q
            obtain ⟨x0, x1, x2, x3, x4⟩ := cells5 X23
            obtain ⟨y0, y1, y2, y3, y4⟩ := cells5 Y23
            obtain ⟨z0, z1, z2, z3, z4⟩ := cells5 V23
            obtain ⟨u0, u1, u2, u3, u4⟩ := cells5 U23
            have HX := Lib.hid X23
            have HY := Lib.hid Y23
            have HV := Lib.hid V23
            have HU := Lib.hid U23
            have HB := Lib.hid B23
            have HD := Lib.hid hD'
            clear X23 Y23 V23 U23 B23 hD'
            go_wp2_with fail
            refine ⟨⟨k + 1, N, _, _, _, false, _, _, _, _, _, _, _, _, by omega, by go_num, rfl, rfl, by omega, HX.out, HY.out, HD.out, HV.out, HU.out, HB.out⟩, ?_⟩
            simp [intOf]
            omega
          · subst hABC
            have g1' : decide (P ≤ P) = true := decide_eq_true (by omega)
            have g2' : dn P P = 0 := by unfold dn; split <;> omega
            rw [g1'] at e5q
            rw [g2'] at e6q e6c
            rw [show ((0 : Int) == 0) = true from rfl] at e6q
            subst e5q e6c e6q
            obtain ⟨x0, x1, x2, x3, x4⟩ := cells5 X23
            obtain ⟨y0, y1, y2, y3, y4⟩ := cells5 Y23
            obtain ⟨z0, z1, z2, z3, z4⟩ := cells5 V23
            obtain ⟨u0, u1, u2, u3, u4⟩ := cells5 U23
            have HX := Lib.hid X23
            have HY := Lib.hid Y23
            have HV := Lib.hid V23
            have HU := Lib.hid U23
            have HB := Lib.hid B23
            have HD := Lib.hid hD'
            clear X23 Y23 V23 U23 B23 hD'
            go_wp2_with fail
            refine ⟨⟨k + 1, P, _, _, _, false, _, _, _, _, _, _, _, _, by omega, by go_num, rfl, rfl, by omega, HX.out, HY.out, HD.out, HV.out, HU.out, HB.out⟩, ?_⟩
            simp [intOf]
            omega
          · have hc : N < P := by omega
            have g1' : decide (P ≤ N) = false := decide_eq_false (by omega)
            have g2' : dn N P = P - N := if_neg (by omega)
            have g3' : IntKind.i64.wrap (P - N) = P - N := IntWalk.i64_in _ (by omega)
            have g4' : ¬ P - N < 0 := by omega
            have g5' : ¬ P ≤ N := by omega
            have g6' : ¬ P - N = 0 := by omega
            have g7' : (P - N == 0) = false := by simpa using g6'
            rw [g1'] at e5q
            rw [g2'] at e6q e6c
            rw [g7'] at e6q
            subst e5q e6c e6q
            obtain ⟨x0, x1, x2, x3, x4⟩ := cells5 X23
            obtain ⟨y0, y1, y2, y3, y4⟩ := cells5 Y23
            obtain ⟨z0, z1, z2, z3, z4⟩ := cells5 V23
            obtain ⟨u0, u1, u2, u3, u4⟩ := cells5 U23
            have HX := Lib.hid X23
            have HY := Lib.hid Y23
            have HV := Lib.hid V23
            have HU := Lib.hid U23
            have HB := Lib.hid B23
            have HD := Lib.hid hD'
            clear X23 Y23 V23 U23 B23 hD'
            go_wp2_with fail
            refine ⟨⟨k + 1, N, _, _, _, false, _, _, _, _, _, _, _, _, by omega, by go_num, rfl, rfl, by omega, HX.out, HY.out, HD.out, HV.out, HU.out, HB.out⟩, ?_⟩
            simp [intOf]
            omega
        · go_wp2_with fail
          refine AnyK.start 20 (fun w' => Box w' g1 4 q1 true o1 N ∧ Box w' g2 5 q2 true o2 c2 ∧ Box w' g3 6 q3 true o3 c3 ∧ Box w' g4 7 q4 true o4 c4) rfl ⟨HX.out, HY.out, HV.out, HU.out⟩ (fun hS0 => ?_)
          refine AnyK.take (oi := { dst := _, op := _, type := _, pos := _, after := _, guard := _ }) 0 ?_ rfl (by kernel_rfl) (fun _ _ _ h => h) (Or.inl ⟨by rfl, ?_⟩) hS0 ?_
          rotate_left
          · (intro w' hSw; obtain ⟨b1, b2, b3, b4⟩ := hSw; obtain ⟨x0, x1, x2, x3, x4⟩ := cells5 b1; obtain ⟨y0, y1, y2, y3, y4⟩ := cells5 b2; obtain ⟨z0, z1, z2, z3, z4⟩ := cells5 b3; obtain ⟨u0, u1, u2, u3, u4⟩ := cells5 b4; go_simp; with_reducible rfl)
          simp only [Act.put, List.setIfInBounds_toArray, List.set_cons_zero, List.set_cons_succ]
          refine AnyK.take (oi := { dst := _, op := _, type := _, pos := _, after := _, guard := _ }) 1 ?_ rfl (by kernel_rfl) (fun _ _ _ h => h) (Or.inl ⟨by rfl, ?_⟩) hS0 ?_
          rotate_left
          · (intro w' hSw; clear hSw; go_simp; with_reducible rfl)
          simp only [Act.put, List.setIfInBounds_toArray, List.set_cons_zero, List.set_cons_succ]
          refine AnyK.take (oi := { dst := _, op := _, type := _, pos := _, after := _, guard := _ }) 2 ?_ rfl (by kernel_rfl) (fun _ _ _ h => h) (Or.inl ⟨by rfl, ?_⟩) hS0 ?_
          rotate_left
          · (intro w' hSw; clear hSw; go_simp; with_reducible rfl)
          simp only [Act.put, List.setIfInBounds_toArray, List.set_cons_zero, List.set_cons_succ]
          refine AnyK.take (oi := { dst := _, op := _, type := _, pos := _, after := _, guard := _ }) 3 ?_ rfl (by kernel_rfl) (fun _ _ _ h => h) (Or.inl ⟨by rfl, ?_⟩) hS0 ?_
          rotate_left
          · (intro w' hSw; clear hSw; go_simp; with_reducible rfl)
          simp only [Act.put, List.setIfInBounds_toArray, List.set_cons_zero, List.set_cons_succ]
          refine AnyK.take (oi := { dst := _, op := _, type := _, pos := _, after := _, guard := _ }) 5 ?_ rfl (by kernel_rfl) (fun _ _ _ h => h) (Or.inl ⟨by rfl, ?_⟩) hS0 ?_
          rotate_left
          · (intro w' hSw; obtain ⟨b1, b2, b3, b4⟩ := hSw; obtain ⟨x0, x1, x2, x3, x4⟩ := cells5 b1; obtain ⟨y0, y1, y2, y3, y4⟩ := cells5 b2; obtain ⟨z0, z1, z2, z3, z4⟩ := cells5 b3; obtain ⟨u0, u1, u2, u3, u4⟩ := cells5 b4; go_simp; with_reducible rfl)
          simp only [Act.put, List.setIfInBounds_toArray, List.set_cons_zero, List.set_cons_succ]
          refine AnyK.take (oi := { dst := _, op := _, type := _, pos := _, after := _, guard := _ }) 6 ?_ rfl (by kernel_rfl) (fun _ _ _ h => h) (Or.inl ⟨by rfl, ?_⟩) hS0 ?_
          rotate_left
          · (intro w' hSw; clear hSw; go_simp; with_reducible rfl)
          simp only [Act.put, List.setIfInBounds_toArray, List.set_cons_zero, List.set_cons_succ]
          refine AnyK.take (oi := { dst := _, op := _, type := _, pos := _, after := _, guard := _ }) 7 ?_ rfl (by kernel_rfl) (fun _ _ _ h => h) (Or.inl ⟨by rfl, ?_⟩) hS0 ?_
          rotate_left
          · (intro w' hSw; clear hSw; go_simp; with_reducible rfl)
          simp only [Act.put, List.setIfInBounds_toArray, List.set_cons_zero, List.set_cons_succ]
          refine AnyK.take (oi := { dst := _, op := _, type := _, pos := _, after := _, guard := _ }) 8 ?_ rfl (by kernel_rfl) (fun _ _ _ h => h) (Or.inl ⟨by rfl, ?_⟩) hS0 ?_
          rotate_left
          · (intro w' hSw; clear hSw; go_simp; with_reducible rfl)
          simp only [Act.put, List.setIfInBounds_toArray, List.set_cons_zero, List.set_cons_succ]
          refine AnyK.take (oi := { dst := _, op := _, type := _, pos := _, after := _, guard := _ }) 10 ?_ rfl (by kernel_rfl) (fun _ _ _ h => h) (Or.inl ⟨by rfl, ?_⟩) hS0 ?_
          rotate_left
          · (intro w' hSw; obtain ⟨b1, b2, b3, b4⟩ := hSw; obtain ⟨x0, x1, x2, x3, x4⟩ := cells5 b1; obtain ⟨y0, y1, y2, y3, y4⟩ := cells5 b2; obtain ⟨z0, z1, z2, z3, z4⟩ := cells5 b3; obtain ⟨u0, u1, u2, u3, u4⟩ := cells5 b4; go_simp; with_reducible rfl)
          simp only [Act.put, List.setIfInBounds_toArray, List.set_cons_zero, List.set_cons_succ]
          refine AnyK.take (oi := { dst := _, op := _, type := _, pos := _, after := _, guard := _ }) 11 ?_ rfl (by kernel_rfl) (fun _ _ _ h => h) (Or.inl ⟨by rfl, ?_⟩) hS0 ?_
          rotate_left
          · (intro w' hSw; clear hSw; go_simp; with_reducible rfl)
          simp only [Act.put, List.setIfInBounds_toArray, List.set_cons_zero, List.set_cons_succ]
          refine AnyK.take (oi := { dst := _, op := _, type := _, pos := _, after := _, guard := _ }) 12 ?_ rfl (by kernel_rfl) (fun _ _ _ h => h) (Or.inl ⟨by rfl, ?_⟩) hS0 ?_
          rotate_left
          · (intro w' hSw; clear hSw; go_simp; with_reducible rfl)
          simp only [Act.put, List.setIfInBounds_toArray, List.set_cons_zero, List.set_cons_succ]
          refine AnyK.take (oi := { dst := _, op := _, type := _, pos := _, after := _, guard := _ }) 13 ?_ rfl (by kernel_rfl) (fun _ _ _ h => h) (Or.inl ⟨by rfl, ?_⟩) hS0 ?_
          rotate_left
          · (intro w' hSw; clear hSw; go_simp; with_reducible rfl)
          simp only [Act.put, List.setIfInBounds_toArray, List.set_cons_zero, List.set_cons_succ]
          refine AnyK.take (oi := { dst := _, op := _, type := _, pos := _, after := _, guard := _ }) 15 ?_ rfl (by kernel_rfl) (fun _ _ _ h => h) (Or.inl ⟨by rfl, ?_⟩) hS0 ?_
          rotate_left
          · (intro w' hSw; obtain ⟨b1, b2, b3, b4⟩ := hSw; obtain ⟨x0, x1, x2, x3, x4⟩ := cells5 b1; obtain ⟨y0, y1, y2, y3, y4⟩ := cells5 b2; obtain ⟨z0, z1, z2, z3, z4⟩ := cells5 b3; obtain ⟨u0, u1, u2, u3, u4⟩ := cells5 b4; go_simp; with_reducible rfl)
          simp only [Act.put, List.setIfInBounds_toArray, List.set_cons_zero, List.set_cons_succ]
          refine AnyK.take (oi := { dst := _, op := _, type := _, pos := _, after := _, guard := _ }) 16 ?_ rfl (by kernel_rfl) (fun _ _ _ h => h) (Or.inl ⟨by rfl, ?_⟩) hS0 ?_
          rotate_left
          · (intro w' hSw; clear hSw; go_simp; with_reducible rfl)
          simp only [Act.put, List.setIfInBounds_toArray, List.set_cons_zero, List.set_cons_succ]
          refine AnyK.take (oi := { dst := _, op := _, type := _, pos := _, after := _, guard := _ }) 17 ?_ rfl (by kernel_rfl) (fun _ _ _ h => h) (Or.inl ⟨by rfl, ?_⟩) hS0 ?_
          rotate_left
          · (intro w' hSw; clear hSw; go_simp; with_reducible rfl)
          simp only [Act.put, List.setIfInBounds_toArray, List.set_cons_zero, List.set_cons_succ]
          refine AnyK.take (oi := { dst := _, op := _, type := _, pos := _, after := _, guard := _ }) 18 ?_ rfl (by kernel_rfl) (fun _ _ _ h => h) (Or.inl ⟨by rfl, ?_⟩) hS0 ?_
          rotate_left
          · (intro w' hSw; clear hSw; go_simp; with_reducible rfl)
          simp only [Act.put, List.setIfInBounds_toArray, List.set_cons_zero, List.set_cons_succ]
          refine AnyK.one 4 (by kernel_rfl) rfl (fun KK hK => ?_)
          go_simp
          refine (step_ex _ _ _ _ _ _ _ _ _).mono ?_; rintro e w5 ⟨q5, l5, o5, c5, rfl, H5, hb5⟩
          have hS5 := (⟨hS0.1.keep hb5, hS0.2.1.keep hb5, hS0.2.2.1.keep hb5, hS0.2.2.2.keep hb5⟩ : Box w5 g1 4 q1 true o1 N ∧ Box w5 g2 5 q2 true o2 c2 ∧ Box w5 g3 6 q3 true o3 c3 ∧ Box w5 g4 7 q4 true o4 c4)
          refine hK _ _ hS5 ?_
          clear hK
          refine AnyK.one 9 (by kernel_rfl) rfl (fun KK hK => ?_)
          go_simp
          refine (step_ex _ _ _ _ _ _ _ _ _).mono ?_; rintro e w6 ⟨q6, l6, o6, c6, rfl, H6, hb6⟩
          have hS6 := (⟨hS5.1.keep hb6, hS5.2.1.keep hb6, hS5.2.2.1.keep hb6, hS5.2.2.2.keep hb6⟩ : Box w6 g1 4 q1 true o1 N ∧ Box w6 g2 5 q2 true o2 c2 ∧ Box w6 g3 6 q3 true o3 c3 ∧ Box w6 g4 7 q4 true o4 c4)
          refine hK _ _ hS6 ?_
          clear hK
          refine AnyK.one 14 (by kernel_rfl) rfl (fun KK hK => ?_)
          go_simp
          refine (step_ex _ _ _ _ _ _ _ _ _).mono ?_; rintro e w7 ⟨q7, l7, o7, c7, rfl, H7, hb7⟩
          have hS7 := (⟨hS6.1.keep hb7, hS6.2.1.keep hb7, hS6.2.2.1.keep hb7, hS6.2.2.2.keep hb7⟩ : Box w7 g1 4 q1 true o1 N ∧ Box w7 g2 5 q2 true o2 c2 ∧ Box w7 g3 6 q3 true o3 c3 ∧ Box w7 g4 7 q4 true o4 c4)
          refine hK _ _ hS7 ?_
          clear hK
          refine AnyK.one 19 (by kernel_rfl) rfl (fun KK hK => ?_)
          go_simp
          refine (step_ex _ _ _ _ _ _ _ _ _).mono ?_; rintro e w8 ⟨q8, l8, o8, c8, rfl, H8, hb8⟩
          have hS8 := (⟨hS7.1.keep hb8, hS7.2.1.keep hb8, hS7.2.2.1.keep hb8, hS7.2.2.2.keep hb8⟩ : Box w8 g1 4 q1 true o1 N ∧ Box w8 g2 5 q2 true o2 c2 ∧ Box w8 g3 6 q3 true o3 c3 ∧ Box w8 g4 7 q4 true o4 c4)
          refine hK _ _ hS8 ?_
          clear hK
          obtain ⟨X8, Y8, V8, U8⟩ := hS8
          have B8 := keepB (keepB (keepB (keepB HB.out.drew hb5) hb6) hb7) hb8
          clear hb5 hb6 hb7 hb8 hS0 hS5 hS6 hS7
          obtain ⟨m0, m1, m2, m3, m4⟩ := cells5 X8
          obtain ⟨f0, f1, f2, f3, f4⟩ := froz5 X8
          refine AnyK.late 20 (by kernel_rfl) (by kernel_rfl) rfl (fun KK hK => ?_)
          go_simp
          refine hK _ _ ?_
          clear hK m0 m1 m2 m3 m4 f0 f1 f2 f3 f4
          have X20 := box_set X8 4 q5 l5 o5 c5
          have Y20 := Y8.other g1 (.int .i64 4) (.bool q5) (.bool l5) (.bool o5) (.int .i64 c5) (by omega)
          have V20 := V8.other g1 (.int .i64 4) (.bool q5) (.bool l5) (.bool o5) (.int .i64 c5) (by omega)
          have U20 := U8.other g1 (.int .i64 4) (.bool q5) (.bool l5) (.bool o5) (.int .i64 c5) (by omega)
          have B20 := below_set B8 g1 (.int .i64 4) (.bool q5) (.bool l5) (.bool o5) (.int .i64 c5) (by omega)
          generalize (((((w8.setCell ⟨g1, 0, none⟩ (.int .i64 4)).setCell ⟨g1, 1, none⟩ (.bool q5)).setCell ⟨g1, 2, none⟩ (.bool l5)).setCell ⟨g1, 3, none⟩ (.bool o5)).setCell ⟨g1, 4, none⟩ (.int .i64 c5)) = w20 at *
          clear X8 Y8 V8 U8 B8
          obtain ⟨m0, m1, m2, m3, m4⟩ := cells5 Y20
          obtain ⟨f0, f1, f2, f3, f4⟩ := froz5 Y20
          refine AnyK.late 21 (by kernel_rfl) (by kernel_rfl) rfl (fun KK hK => ?_)
          go_simp
          refine hK _ _ ?_
          clear hK m0 m1 m2 m3 m4 f0 f1 f2 f3 f4
          have X21 := X20.other g2 (.int .i64 5) (.bool q6) (.bool l6) (.bool o6) (.int .i64 c6) (by omega)
          have Y21 := box_set Y20 5 q6 l6 o6 c6
          have V21 := V20.other g2 (.int .i64 5) (.bool q6) (.bool l6) (.bool o6) (.int .i64 c6) (by omega)
          have U21 := U20.other g2 (.int .i64 5) (.bool q6) (.bool l6) (.bool o6) (.int .i64 c6) (by omega)
          have B21 := below_set B20 g2 (.int .i64 5) (.bool q6) (.bool l6) (.bool o6) (.int .i64 c6) (by omega)
          generalize (((((w20.setCell ⟨g2, 0, none⟩ (.int .i64 5)).setCell ⟨g2, 1, none⟩ (.bool q6)).setCell ⟨g2, 2, none⟩ (.bool l6)).setCell ⟨g2, 3, none⟩ (.bool o6)).setCell ⟨g2, 4, none⟩ (.int .i64 c6)) = w21 at *
          clear X20 Y20 V20 U20 B20
          obtain ⟨m0, m1, m2, m3, m4⟩ := cells5 V21
          obtain ⟨f0, f1, f2, f3, f4⟩ := froz5 V21
          refine AnyK.late 22 (by kernel_rfl) (by kernel_rfl) rfl (fun KK hK => ?_)
          go_simp
          refine hK _ _ ?_
          clear hK m0 m1 m2 m3 m4 f0 f1 f2 f3 f4
          have X22 := X21.other g3 (.int .i64 6) (.bool q7) (.bool l7) (.bool o7) (.int .i64 c7) (by omega)
          have Y22 := Y21.other g3 (.int .i64 6) (.bool q7) (.bool l7) (.bool o7) (.int .i64 c7) (by omega)
          have V22 := box_set V21 6 q7 l7 o7 c7
          have U22 := U21.other g3 (.int .i64 6) (.bool q7) (.bool l7) (.bool o7) (.int .i64 c7) (by omega)
          have B22 := below_set B21 g3 (.int .i64 6) (.bool q7) (.bool l7) (.bool o7) (.int .i64 c7) (by omega)
          generalize (((((w21.setCell ⟨g3, 0, none⟩ (.int .i64 6)).setCell ⟨g3, 1, none⟩ (.bool q7)).setCell ⟨g3, 2, none⟩ (.bool l7)).setCell ⟨g3, 3, none⟩ (.bool o7)).setCell ⟨g3, 4, none⟩ (.int .i64 c7)) = w22 at *
          clear X21 Y21 V21 U21 B21
          obtain ⟨m0, m1, m2, m3, m4⟩ := cells5 U22
          obtain ⟨f0, f1, f2, f3, f4⟩ := froz5 U22
          refine AnyK.late 23 (by kernel_rfl) (by kernel_rfl) rfl (fun KK hK => ?_)
          go_simp
          refine hK _ _ ?_
          clear hK m0 m1 m2 m3 m4 f0 f1 f2 f3 f4
          have X23 := X22.other g4 (.int .i64 7) (.bool q8) (.bool l8) (.bool o8) (.int .i64 c8) (by omega)
          have Y23 := Y22.other g4 (.int .i64 7) (.bool q8) (.bool l8) (.bool o8) (.int .i64 c8) (by omega)
          have V23 := V22.other g4 (.int .i64 7) (.bool q8) (.bool l8) (.bool o8) (.int .i64 c8) (by omega)
          have U23 := box_set U22 7 q8 l8 o8 c8
          have B23 := below_set B22 g4 (.int .i64 7) (.bool q8) (.bool l8) (.bool o8) (.int .i64 c8) (by omega)
          generalize (((((w22.setCell ⟨g4, 0, none⟩ (.int .i64 7)).setCell ⟨g4, 1, none⟩ (.bool q8)).setCell ⟨g4, 2, none⟩ (.bool l8)).setCell ⟨g4, 3, none⟩ (.bool o8)).setCell ⟨g4, 4, none⟩ (.int .i64 c8)) = w23 at *
          clear X22 Y22 V22 U22 B22
          refine AnyK.done (by kernel_rfl) ?_ _
          have e5 := (up_next (N := N) ⟨hN.1, by omega⟩ ⟨hp0, by omega⟩ rfl).symm.trans H5.out
          have e6 := (dn_next (N := N) ⟨hN.1, by omega⟩ ⟨hp0, by omega⟩ rfl HD.out).symm.trans H6.out
          have e7 := rise_next.symm.trans H7.out
          have e8 := fall_next.symm.trans H8.out
          simp only [St.mk.injEq] at e5 e6 e7 e8
          obtain ⟨e5q, rfl, rfl, rfl⟩ := e5
          obtain ⟨e6q, rfl, rfl, e6c⟩ := e6
          obtain ⟨rfl, rfl, rfl, rfl⟩ := e7
          obtain ⟨rfl, rfl, rfl, rfl⟩ := e8
          clear H5 H6 H7 H8 HX HY HV HU HB HD
          have hD' : (if true = true then c6 else P) = dn N P := by rw [← e6c]; rfl
          rcases Int.lt_trichotomy P N with hABC | hABC | hABC
          · have hc : P < N := by omega
            have g1' : decide (P ≤ N) = true := decide_eq_true (by omega)
            have g2' : dn N P = 0 := if_pos (by omega)
            have g3' : IntKind.i64.wrap (P - N) = P - N := IntWalk.i64_in _ (by omega)
            have g4' : P - N < 0 := by omega
            have g5' : P ≤ N := by omega
            rw [g1'] at e5q
            rw [g2'] at e6q e6c
            rw [show ((0 : Int) == 0) = true from rfl] at e6q
            subst e5q e6c e6q
            obtain ⟨x0, x1, x2, x3, x4⟩ := cells5 X23
            obtain ⟨y0, y1, y2, y3, y4⟩ := cells5 Y23
            obtain ⟨z0, z1, z2, z3, z4⟩ := cells5 V23
            obtain ⟨u0, u1, u2, u3, u4⟩ := cells5 U23
            have HX := Lib.hid X23
            have HY := Lib.hid Y23
            have HV := Lib.hid V23
            have HU := Lib.hid U23
            have HB := Lib.hid B23
            have HD := Lib.hid hD'
            clear X23 Y23 V23 U23 B23 hD'
            go_wp2_with fail
            refine ⟨⟨k + 1, N, _, _, _, false, _, _, _, _, _, _, _, _, by omega, by go_num, rfl, rfl, by omega, HX.out, HY.out, HD.out, HV.out, HU.out, HB.out⟩, ?_⟩
            simp [intOf]
            omega
          · subst hABC
            have g1' : decide (P ≤ P) = true := decide_eq_true (by omega)
            have g2' : dn P P = 0 := by unfold dn; split <;> omega
            rw [g1'] at e5q
            rw [g2'] at e6q e6c
            rw [show ((0 : Int) == 0) = true from rfl] at e6q
            subst e5q e6c e6q
            obtain ⟨x0, x1, x2, x3, x4⟩ := cells5 X23
            obtain ⟨y0, y1, y2, y3, y4⟩ := cells5 Y23
            obtain ⟨z0, z1, z2, z3, z4⟩ := cells5 V23
            obtain ⟨u0, u1, u2, u3, u4⟩ := cells5 U23
            have HX := Lib.hid X23
            have HY := Lib.hid Y23
            have HV := Lib.hid V23
            have HU := Lib.hid U23
            have HB := Lib.hid B23
            have HD := Lib.hid hD'
            clear X23 Y23 V23 U23 B23 hD'
            go_wp2_with fail
            refine ⟨⟨k + 1, P, _, _, _, false, _, _, _, _, _, _, _, _, by omega, by go_num, rfl, rfl, by omega, HX.out, HY.out, HD.out, HV.out, HU.out, HB.out⟩, ?_⟩
            simp [intOf]
            omega
          · have hc : N < P := by omega
            have g1' : decide (P ≤ N) = false := decide_eq_false (by omega)
            have g2' : dn N P = P - N := if_neg (by omega)
            have g3' : IntKind.i64.wrap (P - N) = P - N := IntWalk.i64_in _ (by omega)
            have g4' : ¬ P - N < 0 := by omega
            have g5' : ¬ P ≤ N := by omega
            have g6' : ¬ P - N = 0 := by omega
            have g7' : (P - N == 0) = false := by simpa using g6'
            rw [g1'] at e5q
            rw [g2'] at e6q e6c
            rw [g7'] at e6q
            subst e5q e6c e6q
            obtain ⟨x0, x1, x2, x3, x4⟩ := cells5 X23
            obtain ⟨y0, y1, y2, y3, y4⟩ := cells5 Y23
            obtain ⟨z0, z1, z2, z3, z4⟩ := cells5 V23
            obtain ⟨u0, u1, u2, u3, u4⟩ := cells5 U23
            have HX := Lib.hid X23
            have HY := Lib.hid Y23
            have HV := Lib.hid V23
            have HU := Lib.hid U23
            have HB := Lib.hid B23
            have HD := Lib.hid hD'
            clear X23 Y23 V23 U23 B23 hD'
            go_wp2_with fail
            refine ⟨⟨k + 1, N, _, _, _, false, _, _, _, _, _, _, _, _, by omega, by go_num, rfl, rfl, by omega, HX.out, HY.out, HD.out, HV.out, HU.out, HB.out⟩, ?_⟩
            simp [intOf]
            omega
        · go_wp2_with fail
          refine AnyK.start 20 (fun w' => Box w' g1 4 q1 false o1 N ∧ Box w' g2 5 q2 false o2 c2 ∧ Box w' g3 6 q3 false o3 c3 ∧ Box w' g4 7 q4 false o4 c4) rfl ⟨HX.out, HY.out, HV.out, HU.out⟩ (fun hS0 => ?_)
          refine AnyK.take (oi := { dst := _, op := _, type := _, pos := _, after := _, guard := _ }) 0 ?_ rfl (by kernel_rfl) (fun _ _ _ h => h) (Or.inl ⟨by rfl, ?_⟩) hS0 ?_
          rotate_left
          · (intro w' hSw; obtain ⟨b1, b2, b3, b4⟩ := hSw; obtain ⟨x0, x1, x2, x3, x4⟩ := cells5 b1; obtain ⟨y0, y1, y2, y3, y4⟩ := cells5 b2; obtain ⟨z0, z1, z2, z3, z4⟩ := cells5 b3; obtain ⟨u0, u1, u2, u3, u4⟩ := cells5 b4; go_simp; with_reducible rfl)
          simp only [Act.put, List.setIfInBounds_toArray, List.set_cons_zero, List.set_cons_succ]
          refine AnyK.take (oi := { dst := _, op := _, type := _, pos := _, after := _, guard := _ }) 1 ?_ rfl (by kernel_rfl) (fun _ _ _ h => h) (Or.inl ⟨by rfl, ?_⟩) hS0 ?_
          rotate_left
          · (intro w' hSw; clear hSw; go_simp; with_reducible rfl)
          simp only [Act.put, List.setIfInBounds_toArray, List.set_cons_zero, List.set_cons_succ]
          refine AnyK.take (oi := { dst := _, op := _, type := _, pos := _, after := _, guard := _ }) 2 ?_ rfl (by kernel_rfl) (fun _ _ _ h => h) (Or.inl ⟨by rfl, ?_⟩) hS0 ?_
          rotate_left
          · (intro w' hSw; clear hSw; go_simp; with_reducible rfl)
          simp only [Act.put, List.setIfInBounds_toArray, List.set_cons_zero, List.set_cons_succ]
          refine AnyK.take (oi := { dst := _, op := _, type := _, pos := _, after := _, guard := _ }) 3 ?_ rfl (by kernel_rfl) (fun _ _ _ h => h) (Or.inl ⟨by rfl, ?_⟩) hS0 ?_
          rotate_left
          · (intro w' hSw; clear hSw; go_simp; with_reducible rfl)
          simp only [Act.put, List.setIfInBounds_toArray, List.set_cons_zero, List.set_cons_succ]
          refine AnyK.take (oi := { dst := _, op := _, type := _, pos := _, after := _, guard := _ }) 5 ?_ rfl (by kernel_rfl) (fun _ _ _ h => h) (Or.inl ⟨by rfl, ?_⟩) hS0 ?_
          rotate_left
          · (intro w' hSw; obtain ⟨b1, b2, b3, b4⟩ := hSw; obtain ⟨x0, x1, x2, x3, x4⟩ := cells5 b1; obtain ⟨y0, y1, y2, y3, y4⟩ := cells5 b2; obtain ⟨z0, z1, z2, z3, z4⟩ := cells5 b3; obtain ⟨u0, u1, u2, u3, u4⟩ := cells5 b4; go_simp; with_reducible rfl)
          simp only [Act.put, List.setIfInBounds_toArray, List.set_cons_zero, List.set_cons_succ]
          refine AnyK.take (oi := { dst := _, op := _, type := _, pos := _, after := _, guard := _ }) 6 ?_ rfl (by kernel_rfl) (fun _ _ _ h => h) (Or.inl ⟨by rfl, ?_⟩) hS0 ?_
          rotate_left
          · (intro w' hSw; clear hSw; go_simp; with_reducible rfl)
          simp only [Act.put, List.setIfInBounds_toArray, List.set_cons_zero, List.set_cons_succ]
          refine AnyK.take (oi := { dst := _, op := _, type := _, pos := _, after := _, guard := _ }) 7 ?_ rfl (by kernel_rfl) (fun _ _ _ h => h) (Or.inl ⟨by rfl, ?_⟩) hS0 ?_
          rotate_left
          · (intro w' hSw; clear hSw; go_simp; with_reducible rfl)
          simp only [Act.put, List.setIfInBounds_toArray, List.set_cons_zero, List.set_cons_succ]
          refine AnyK.take (oi := { dst := _, op := _, type := _, pos := _, after := _, guard := _ }) 8 ?_ rfl (by kernel_rfl) (fun _ _ _ h => h) (Or.inl ⟨by rfl, ?_⟩) hS0 ?_
          rotate_left
          · (intro w' hSw; clear hSw; go_simp; with_reducible rfl)
          simp only [Act.put, List.setIfInBounds_toArray, List.set_cons_zero, List.set_cons_succ]
          refine AnyK.take (oi := { dst := _, op := _, type := _, pos := _, after := _, guard := _ }) 10 ?_ rfl (by kernel_rfl) (fun _ _ _ h => h) (Or.inl ⟨by rfl, ?_⟩) hS0 ?_
          rotate_left
          · (intro w' hSw; obtain ⟨b1, b2, b3, b4⟩ := hSw; obtain ⟨x0, x1, x2, x3, x4⟩ := cells5 b1; obtain ⟨y0, y1, y2, y3, y4⟩ := cells5 b2; obtain ⟨z0, z1, z2, z3, z4⟩ := cells5 b3; obtain ⟨u0, u1, u2, u3, u4⟩ := cells5 b4; go_simp; with_reducible rfl)
          simp only [Act.put, List.setIfInBounds_toArray, List.set_cons_zero, List.set_cons_succ]
          refine AnyK.take (oi := { dst := _, op := _, type := _, pos := _, after := _, guard := _ }) 11 ?_ rfl (by kernel_rfl) (fun _ _ _ h => h) (Or.inl ⟨by rfl, ?_⟩) hS0 ?_
          rotate_left
          · (intro w' hSw; clear hSw; go_simp; with_reducible rfl)
          simp only [Act.put, List.setIfInBounds_toArray, List.set_cons_zero, List.set_cons_succ]
          refine AnyK.take (oi := { dst := _, op := _, type := _, pos := _, after := _, guard := _ }) 12 ?_ rfl (by kernel_rfl) (fun _ _ _ h => h) (Or.inl ⟨by rfl, ?_⟩) hS0 ?_
          rotate_left
          · (intro w' hSw; clear hSw; go_simp; with_reducible rfl)
          simp only [Act.put, List.setIfInBounds_toArray, List.set_cons_zero, List.set_cons_succ]
          refine AnyK.take (oi := { dst := _, op := _, type := _, pos := _, after := _, guard := _ }) 13 ?_ rfl (by kernel_rfl) (fun _ _ _ h => h) (Or.inl ⟨by rfl, ?_⟩) hS0 ?_
          rotate_left
          · (intro w' hSw; clear hSw; go_simp; with_reducible rfl)
          simp only [Act.put, List.setIfInBounds_toArray, List.set_cons_zero, List.set_cons_succ]
          refine AnyK.take (oi := { dst := _, op := _, type := _, pos := _, after := _, guard := _ }) 15 ?_ rfl (by kernel_rfl) (fun _ _ _ h => h) (Or.inl ⟨by rfl, ?_⟩) hS0 ?_
          rotate_left
          · (intro w' hSw; obtain ⟨b1, b2, b3, b4⟩ := hSw; obtain ⟨x0, x1, x2, x3, x4⟩ := cells5 b1; obtain ⟨y0, y1, y2, y3, y4⟩ := cells5 b2; obtain ⟨z0, z1, z2, z3, z4⟩ := cells5 b3; obtain ⟨u0, u1, u2, u3, u4⟩ := cells5 b4; go_simp; with_reducible rfl)
          simp only [Act.put, List.setIfInBounds_toArray, List.set_cons_zero, List.set_cons_succ]
          refine AnyK.take (oi := { dst := _, op := _, type := _, pos := _, after := _, guard := _ }) 16 ?_ rfl (by kernel_rfl) (fun _ _ _ h => h) (Or.inl ⟨by rfl, ?_⟩) hS0 ?_
          rotate_left
          · (intro w' hSw; clear hSw; go_simp; with_reducible rfl)
          simp only [Act.put, List.setIfInBounds_toArray, List.set_cons_zero, List.set_cons_succ]
          refine AnyK.take (oi := { dst := _, op := _, type := _, pos := _, after := _, guard := _ }) 17 ?_ rfl (by kernel_rfl) (fun _ _ _ h => h) (Or.inl ⟨by rfl, ?_⟩) hS0 ?_
          rotate_left
          · (intro w' hSw; clear hSw; go_simp; with_reducible rfl)
          simp only [Act.put, List.setIfInBounds_toArray, List.set_cons_zero, List.set_cons_succ]
          refine AnyK.take (oi := { dst := _, op := _, type := _, pos := _, after := _, guard := _ }) 18 ?_ rfl (by kernel_rfl) (fun _ _ _ h => h) (Or.inl ⟨by rfl, ?_⟩) hS0 ?_
          rotate_left
          · (intro w' hSw; clear hSw; go_simp; with_reducible rfl)
          simp only [Act.put, List.setIfInBounds_toArray, List.set_cons_zero, List.set_cons_succ]
          refine AnyK.one 4 (by kernel_rfl) rfl (fun KK hK => ?_)
          go_simp
          refine (step_ex _ _ _ _ _ _ _ _ _).mono ?_; rintro e w5 ⟨q5, l5, o5, c5, rfl, H5, hb5⟩
          have hS5 := (⟨hS0.1.keep hb5, hS0.2.1.keep hb5, hS0.2.2.1.keep hb5, hS0.2.2.2.keep hb5⟩ : Box w5 g1 4 q1 false o1 N ∧ Box w5 g2 5 q2 false o2 c2 ∧ Box w5 g3 6 q3 false o3 c3 ∧ Box w5 g4 7 q4 false o4 c4)
          refine hK _ _ hS5 ?_
          clear hK
          refine AnyK.one 9 (by kernel_rfl) rfl (fun KK hK => ?_)
          go_simp
          refine (step_ex _ _ _ _ _ _ _ _ _).mono ?_; rintro e w6 ⟨q6, l6, o6, c6, rfl, H6, hb6⟩
          have hS6 := (⟨hS5.1.keep hb6, hS5.2.1.keep hb6, hS5.2.2.1.keep hb6, hS5.2.2.2.keep hb6⟩ : Box w6 g1 4 q1 false o1 N ∧ Box w6 g2 5 q2 false o2 c2 ∧ Box w6 g3 6 q3 false o3 c3 ∧ Box w6 g4 7 q4 false o4 c4)
          refine hK _ _ hS6 ?_
          clear hK
          refine AnyK.one 14 (by kernel_rfl) rfl (fun KK hK => ?_)
          go_simp
          refine (step_ex _ _ _ _ _ _ _ _ _).mono ?_; rintro e w7 ⟨q7, l7, o7, c7, rfl, H7, hb7⟩
          have hS7 := (⟨hS6.1.keep hb7, hS6.2.1.keep hb7, hS6.2.2.1.keep hb7, hS6.2.2.2.keep hb7⟩ : Box w7 g1 4 q1 false o1 N ∧ Box w7 g2 5 q2 false o2 c2 ∧ Box w7 g3 6 q3 false o3 c3 ∧ Box w7 g4 7 q4 false o4 c4)
          refine hK _ _ hS7 ?_
          clear hK
          refine AnyK.one 19 (by kernel_rfl) rfl (fun KK hK => ?_)
          go_simp
          refine (step_ex _ _ _ _ _ _ _ _ _).mono ?_; rintro e w8 ⟨q8, l8, o8, c8, rfl, H8, hb8⟩
          have hS8 := (⟨hS7.1.keep hb8, hS7.2.1.keep hb8, hS7.2.2.1.keep hb8, hS7.2.2.2.keep hb8⟩ : Box w8 g1 4 q1 false o1 N ∧ Box w8 g2 5 q2 false o2 c2 ∧ Box w8 g3 6 q3 false o3 c3 ∧ Box w8 g4 7 q4 false o4 c4)
          refine hK _ _ hS8 ?_
          clear hK
          obtain ⟨X8, Y8, V8, U8⟩ := hS8
          have B8 := keepB (keepB (keepB (keepB HB.out.drew hb5) hb6) hb7) hb8
          clear hb5 hb6 hb7 hb8 hS0 hS5 hS6 hS7
          obtain ⟨m0, m1, m2, m3, m4⟩ := cells5 X8
          obtain ⟨f0, f1, f2, f3, f4⟩ := froz5 X8
          refine AnyK.late 20 (by kernel_rfl) (by kernel_rfl) rfl (fun KK hK => ?_)
          go_simp
          refine hK _ _ ?_
          clear hK m0 m1 m2 m3 m4 f0 f1 f2 f3 f4
          have X20 := box_set X8 4 q5 l5 o5 c5
          have Y20 := Y8.other g1 (.int .i64 4) (.bool q5) (.bool l5) (.bool o5) (.int .i64 c5) (by omega)
          have V20 := V8.other g1 (.int .i64 4) (.bool q5) (.bool l5) (.bool o5) (.int .i64 c5) (by omega)
          have U20 := U8.other g1 (.int .i64 4) (.bool q5) (.bool l5) (.bool o5) (.int .i64 c5) (by omega)
          have B20 := below_set B8 g1 (.int .i64 4) (.bool q5) (.bool l5) (.bool o5) (.int .i64 c5) (by omega)
          generalize (((((w8.setCell ⟨g1, 0, none⟩ (.int .i64 4)).setCell ⟨g1, 1, none⟩ (.bool q5)).setCell ⟨g1, 2, none⟩ (.bool l5)).setCell ⟨g1, 3, none⟩ (.bool o5)).setCell ⟨g1, 4, none⟩ (.int .i64 c5)) = w20 at *
          clear X8 Y8 V8 U8 B8
          obtain ⟨m0, m1, m2, m3, m4⟩ := cells5 Y20
          obtain ⟨f0, f1, f2, f3, f4⟩ := froz5 Y20
          refine AnyK.late 21 (by kernel_rfl) (by kernel_rfl) rfl (fun KK hK => ?_)
          go_simp
          refine hK _ _ ?_
          clear hK m0 m1 m2 m3 m4 f0 f1 f2 f3 f4
          have X21 := X20.other g2 (.int .i64 5) (.bool q6) (.bool l6) (.bool o6) (.int .i64 c6) (by omega)
          have Y21 := box_set Y20 5 q6 l6 o6 c6
          have V21 := V20.other g2 (.int .i64 5) (.bool q6) (.bool l6) (.bool o6) (.int .i64 c6) (by omega)
          have U21 := U20.other g2 (.int .i64 5) (.bool q6) (.bool l6) (.bool o6) (.int .i64 c6) (by omega)
          have B21 := below_set B20 g2 (.int .i64 5) (.bool q6) (.bool l6) (.bool o6) (.int .i64 c6) (by omega)
          generalize (((((w20.setCell ⟨g2, 0, none⟩ (.int .i64 5)).setCell ⟨g2, 1, none⟩ (.bool q6)).setCell ⟨g2, 2, none⟩ (.bool l6)).setCell ⟨g2, 3, none⟩ (.bool o6)).setCell ⟨g2, 4, none⟩ (.int .i64 c6)) = w21 at *
          clear X20 Y20 V20 U20 B20
          obtain ⟨m0, m1, m2, m3, m4⟩ := cells5 V21
          obtain ⟨f0, f1, f2, f3, f4⟩ := froz5 V21
          refine AnyK.late 22 (by kernel_rfl) (by kernel_rfl) rfl (fun KK hK => ?_)
          go_simp
          refine hK _ _ ?_
          clear hK m0 m1 m2 m3 m4 f0 f1 f2 f3 f4
          have X22 := X21.other g3 (.int .i64 6) (.bool q7) (.bool l7) (.bool o7) (.int .i64 c7) (by omega)
          have Y22 := Y21.other g3 (.int .i64 6) (.bool q7) (.bool l7) (.bool o7) (.int .i64 c7) (by omega)
          have V22 := box_set V21 6 q7 l7 o7 c7
          have U22 := U21.other g3 (.int .i64 6) (.bool q7) (.bool l7) (.bool o7) (.int .i64 c7) (by omega)
          have B22 := below_set B21 g3 (.int .i64 6) (.bool q7) (.bool l7) (.bool o7) (.int .i64 c7) (by omega)
          generalize (((((w21.setCell ⟨g3, 0, none⟩ (.int .i64 6)).setCell ⟨g3, 1, none⟩ (.bool q7)).setCell ⟨g3, 2, none⟩ (.bool l7)).setCell ⟨g3, 3, none⟩ (.bool o7)).setCell ⟨g3, 4, none⟩ (.int .i64 c7)) = w22 at *
          clear X21 Y21 V21 U21 B21
          obtain ⟨m0, m1, m2, m3, m4⟩ := cells5 U22
          obtain ⟨f0, f1, f2, f3, f4⟩ := froz5 U22
          refine AnyK.late 23 (by kernel_rfl) (by kernel_rfl) rfl (fun KK hK => ?_)
          go_simp
          refine hK _ _ ?_
          clear hK m0 m1 m2 m3 m4 f0 f1 f2 f3 f4
          have X23 := X22.other g4 (.int .i64 7) (.bool q8) (.bool l8) (.bool o8) (.int .i64 c8) (by omega)
          have Y23 := Y22.other g4 (.int .i64 7) (.bool q8) (.bool l8) (.bool o8) (.int .i64 c8) (by omega)
          have V23 := V22.other g4 (.int .i64 7) (.bool q8) (.bool l8) (.bool o8) (.int .i64 c8) (by omega)
          have U23 := box_set U22 7 q8 l8 o8 c8
          have B23 := below_set B22 g4 (.int .i64 7) (.bool q8) (.bool l8) (.bool o8) (.int .i64 c8) (by omega)
          generalize (((((w22.setCell ⟨g4, 0, none⟩ (.int .i64 7)).setCell ⟨g4, 1, none⟩ (.bool q8)).setCell ⟨g4, 2, none⟩ (.bool l8)).setCell ⟨g4, 3, none⟩ (.bool o8)).setCell ⟨g4, 4, none⟩ (.int .i64 c8)) = w23 at *
          clear X22 Y22 V22 U22 B22
          refine AnyK.done (by kernel_rfl) ?_ _
          have e5 := (up_next (N := (N + 1)) ⟨hN.1, by omega⟩ ⟨hp0, by omega⟩ rfl).symm.trans H5.out
          have e6 := (dn_next (N := (N + 1)) ⟨hN.1, by omega⟩ ⟨hp0, by omega⟩ rfl HD.out).symm.trans H6.out
          have e7 := rise_next.symm.trans H7.out
          have e8 := fall_next.symm.trans H8.out
          simp only [St.mk.injEq] at e5 e6 e7 e8
          obtain ⟨e5q, rfl, rfl, rfl⟩ := e5
          obtain ⟨e6q, rfl, rfl, e6c⟩ := e6
          obtain ⟨rfl, rfl, rfl, rfl⟩ := e7
          obtain ⟨rfl, rfl, rfl, rfl⟩ := e8
          clear H5 H6 H7 H8 HX HY HV HU HB HD
          have hD' : (if true = true then c6 else P) = dn (N + 1) P := by rw [← e6c]; rfl
          rcases Int.lt_trichotomy P (N + 1) with hABC | hABC | hABC
          · have hc : P < (N + 1) := by omega
            have g1' : decide (P ≤ (N + 1)) = true := decide_eq_true (by omega)
            have g2' : dn (N + 1) P = 0 := if_pos (by omega)
            have g3' : IntKind.i64.wrap (P - (N + 1)) = P - (N + 1) := IntWalk.i64_in _ (by omega)
            have g4' : P - (N + 1) < 0 := by omega
            have g5' : P ≤ (N + 1) := by omega
            rw [g1'] at e5q
            rw [g2'] at e6q e6c
            rw [show ((0 : Int) == 0) = true from rfl] at e6q
            subst e5q e6c e6q
            obtain ⟨x0, x1, x2, x3, x4⟩ := cells5 X23
            obtain ⟨y0, y1, y2, y3, y4⟩ := cells5 Y23
            obtain ⟨z0, z1, z2, z3, z4⟩ := cells5 V23
            obtain ⟨u0, u1, u2, u3, u4⟩ := cells5 U23
            have HX := Lib.hid X23
            have HY := Lib.hid Y23
            have HV := Lib.hid V23
            have HU := Lib.hid U23
            have HB := Lib.hid B23
            have HD := Lib.hid hD'
            clear X23 Y23 V23 U23 B23 hD'
            go_wp2_with fail
            refine ⟨⟨k + 1, (N + 1), _, _, _, true, _, _, _, _, _, _, _, _, by omega, by go_num, rfl, rfl, by omega, HX.out, HY.out, HD.out, HV.out, HU.out, HB.out⟩, ?_⟩
            simp [intOf]
            omega
          · subst hABC
            have g1' : decide ((N + 1) ≤ (N + 1)) = true := decide_eq_true (by omega)
            have g2' : dn (N + 1) (N + 1) = 0 := by unfold dn; split <;> omega
            rw [g1'] at e5q
            rw [g2'] at e6q e6c
            rw [show ((0 : Int) == 0) = true from rfl] at e6q
            subst e5q e6c e6q
            obtain ⟨x0, x1, x2, x3, x4⟩ := cells5 X23
            obtain ⟨y0, y1, y2, y3, y4⟩ := cells5 Y23
            obtain ⟨z0, z1, z2, z3, z4⟩ := cells5 V23
            obtain ⟨u0, u1, u2, u3, u4⟩ := cells5 U23
            have HX := Lib.hid X23
            have HY := Lib.hid Y23
            have HV := Lib.hid V23
            have HU := Lib.hid U23
            have HB := Lib.hid B23
            have HD := Lib.hid hD'
            clear X23 Y23 V23 U23 B23 hD'
            go_wp2_with fail
            refine ⟨⟨k + 1, (N + 1), _, _, _, true, _, _, _, _, _, _, _, _, by omega, by go_num, rfl, rfl, by omega, HX.out, HY.out, HD.out, HV.out, HU.out, HB.out⟩, ?_⟩
            simp [intOf]
            omega
          · have hc : (N + 1) < P := by omega
            have g1' : decide (P ≤ (N + 1)) = false := decide_eq_false (by omega)
            have g2' : dn (N + 1) P = P - (N + 1) := if_neg (by omega)
            have g3' : IntKind.i64.wrap (P - (N + 1)) = P - (N + 1) := IntWalk.i64_in _ (by omega)
            have g4' : ¬ P - (N + 1) < 0 := by omega
            have g5' : ¬ P ≤ (N + 1) := by omega
            have g6' : ¬ P - (N + 1) = 0 := by omega
            have g7' : (P - (N + 1) == 0) = false := by simpa using g6'
            rw [g1'] at e5q
            rw [g2'] at e6q e6c
            rw [g7'] at e6q
            subst e5q e6c e6q
            obtain ⟨x0, x1, x2, x3, x4⟩ := cells5 X23
            obtain ⟨y0, y1, y2, y3, y4⟩ := cells5 Y23
            obtain ⟨z0, z1, z2, z3, z4⟩ := cells5 V23
            obtain ⟨u0, u1, u2, u3, u4⟩ := cells5 U23
            have HX := Lib.hid X23
            have HY := Lib.hid Y23
            have HV := Lib.hid V23
            have HU := Lib.hid U23
            have HB := Lib.hid B23
            have HD := Lib.hid hD'
            clear X23 Y23 V23 U23 B23 hD'
            go_wp2_with fail
            refine ⟨⟨k + 1, (N + 1), _, _, _, true, _, _, _, _, _, _, _, _, by omega, by go_num, rfl, rfl, by omega, HX.out, HY.out, HD.out, HV.out, HU.out, HB.out⟩, ?_⟩
            simp [intOf]
            omega
        · go_wp2_with fail
          refine AnyK.start 20 (fun w' => Box w' g1 4 q1 true o1 N ∧ Box w' g2 5 q2 true o2 c2 ∧ Box w' g3 6 q3 true o3 c3 ∧ Box w' g4 7 q4 true o4 c4) rfl ⟨HX.out, HY.out, HV.out, HU.out⟩ (fun hS0 => ?_)
          refine AnyK.take (oi := { dst := _, op := _, type := _, pos := _, after := _, guard := _ }) 0 ?_ rfl (by kernel_rfl) (fun _ _ _ h => h) (Or.inl ⟨by rfl, ?_⟩) hS0 ?_
          rotate_left
          · (intro w' hSw; obtain ⟨b1, b2, b3, b4⟩ := hSw; obtain ⟨x0, x1, x2, x3, x4⟩ := cells5 b1; obtain ⟨y0, y1, y2, y3, y4⟩ := cells5 b2; obtain ⟨z0, z1, z2, z3, z4⟩ := cells5 b3; obtain ⟨u0, u1, u2, u3, u4⟩ := cells5 b4; go_simp; with_reducible rfl)
          simp only [Act.put, List.setIfInBounds_toArray, List.set_cons_zero, List.set_cons_succ]
          refine AnyK.take (oi := { dst := _, op := _, type := _, pos := _, after := _, guard := _ }) 1 ?_ rfl (by kernel_rfl) (fun _ _ _ h => h) (Or.inl ⟨by rfl, ?_⟩) hS0 ?_
          rotate_left
          · (intro w' hSw; clear hSw; go_simp; with_reducible rfl)
          simp only [Act.put, List.setIfInBounds_toArray, List.set_cons_zero, List.set_cons_succ]
          refine AnyK.take (oi := { dst := _, op := _, type := _, pos := _, after := _, guard := _ }) 2 ?_ rfl (by kernel_rfl) (fun _ _ _ h => h) (Or.inl ⟨by rfl, ?_⟩) hS0 ?_
          rotate_left
          · (intro w' hSw; clear hSw; go_simp; with_reducible rfl)
          simp only [Act.put, List.setIfInBounds_toArray, List.set_cons_zero, List.set_cons_succ]
          refine AnyK.take (oi := { dst := _, op := _, type := _, pos := _, after := _, guard := _ }) 3 ?_ rfl (by kernel_rfl) (fun _ _ _ h => h) (Or.inl ⟨by rfl, ?_⟩) hS0 ?_
          rotate_left
          · (intro w' hSw; clear hSw; go_simp; with_reducible rfl)
          simp only [Act.put, List.setIfInBounds_toArray, List.set_cons_zero, List.set_cons_succ]
          refine AnyK.take (oi := { dst := _, op := _, type := _, pos := _, after := _, guard := _ }) 5 ?_ rfl (by kernel_rfl) (fun _ _ _ h => h) (Or.inl ⟨by rfl, ?_⟩) hS0 ?_
          rotate_left
          · (intro w' hSw; obtain ⟨b1, b2, b3, b4⟩ := hSw; obtain ⟨x0, x1, x2, x3, x4⟩ := cells5 b1; obtain ⟨y0, y1, y2, y3, y4⟩ := cells5 b2; obtain ⟨z0, z1, z2, z3, z4⟩ := cells5 b3; obtain ⟨u0, u1, u2, u3, u4⟩ := cells5 b4; go_simp; with_reducible rfl)
          simp only [Act.put, List.setIfInBounds_toArray, List.set_cons_zero, List.set_cons_succ]
          refine AnyK.take (oi := { dst := _, op := _, type := _, pos := _, after := _, guard := _ }) 6 ?_ rfl (by kernel_rfl) (fun _ _ _ h => h) (Or.inl ⟨by rfl, ?_⟩) hS0 ?_
          rotate_left
          · (intro w' hSw; clear hSw; go_simp; with_reducible rfl)
          simp only [Act.put, List.setIfInBounds_toArray, List.set_cons_zero, List.set_cons_succ]
          refine AnyK.take (oi := { dst := _, op := _, type := _, pos := _, after := _, guard := _ }) 7 ?_ rfl (by kernel_rfl) (fun _ _ _ h => h) (Or.inl ⟨by rfl, ?_⟩) hS0 ?_
          rotate_left
          · (intro w' hSw; clear hSw; go_simp; with_reducible rfl)
          simp only [Act.put, List.setIfInBounds_toArray, List.set_cons_zero, List.set_cons_succ]
          refine AnyK.take (oi := { dst := _, op := _, type := _, pos := _, after := _, guard := _ }) 8 ?_ rfl (by kernel_rfl) (fun _ _ _ h => h) (Or.inl ⟨by rfl, ?_⟩) hS0 ?_
          rotate_left
          · (intro w' hSw; clear hSw; go_simp; with_reducible rfl)
          simp only [Act.put, List.setIfInBounds_toArray, List.set_cons_zero, List.set_cons_succ]
          refine AnyK.take (oi := { dst := _, op := _, type := _, pos := _, after := _, guard := _ }) 10 ?_ rfl (by kernel_rfl) (fun _ _ _ h => h) (Or.inl ⟨by rfl, ?_⟩) hS0 ?_
          rotate_left
          · (intro w' hSw; obtain ⟨b1, b2, b3, b4⟩ := hSw; obtain ⟨x0, x1, x2, x3, x4⟩ := cells5 b1; obtain ⟨y0, y1, y2, y3, y4⟩ := cells5 b2; obtain ⟨z0, z1, z2, z3, z4⟩ := cells5 b3; obtain ⟨u0, u1, u2, u3, u4⟩ := cells5 b4; go_simp; with_reducible rfl)
          simp only [Act.put, List.setIfInBounds_toArray, List.set_cons_zero, List.set_cons_succ]
          refine AnyK.take (oi := { dst := _, op := _, type := _, pos := _, after := _, guard := _ }) 11 ?_ rfl (by kernel_rfl) (fun _ _ _ h => h) (Or.inl ⟨by rfl, ?_⟩) hS0 ?_
          rotate_left
          · (intro w' hSw; clear hSw; go_simp; with_reducible rfl)
          simp only [Act.put, List.setIfInBounds_toArray, List.set_cons_zero, List.set_cons_succ]
          refine AnyK.take (oi := { dst := _, op := _, type := _, pos := _, after := _, guard := _ }) 12 ?_ rfl (by kernel_rfl) (fun _ _ _ h => h) (Or.inl ⟨by rfl, ?_⟩) hS0 ?_
          rotate_left
          · (intro w' hSw; clear hSw; go_simp; with_reducible rfl)
          simp only [Act.put, List.setIfInBounds_toArray, List.set_cons_zero, List.set_cons_succ]
          refine AnyK.take (oi := { dst := _, op := _, type := _, pos := _, after := _, guard := _ }) 13 ?_ rfl (by kernel_rfl) (fun _ _ _ h => h) (Or.inl ⟨by rfl, ?_⟩) hS0 ?_
          rotate_left
          · (intro w' hSw; clear hSw; go_simp; with_reducible rfl)
          simp only [Act.put, List.setIfInBounds_toArray, List.set_cons_zero, List.set_cons_succ]
          refine AnyK.take (oi := { dst := _, op := _, type := _, pos := _, after := _, guard := _ }) 15 ?_ rfl (by kernel_rfl) (fun _ _ _ h => h) (Or.inl ⟨by rfl, ?_⟩) hS0 ?_
          rotate_left
          · (intro w' hSw; obtain ⟨b1, b2, b3, b4⟩ := hSw; obtain ⟨x0, x1, x2, x3, x4⟩ := cells5 b1; obtain ⟨y0, y1, y2, y3, y4⟩ := cells5 b2; obtain ⟨z0, z1, z2, z3, z4⟩ := cells5 b3; obtain ⟨u0, u1, u2, u3, u4⟩ := cells5 b4; go_simp; with_reducible rfl)
          simp only [Act.put, List.setIfInBounds_toArray, List.set_cons_zero, List.set_cons_succ]
          refine AnyK.take (oi := { dst := _, op := _, type := _, pos := _, after := _, guard := _ }) 16 ?_ rfl (by kernel_rfl) (fun _ _ _ h => h) (Or.inl ⟨by rfl, ?_⟩) hS0 ?_
          rotate_left
          · (intro w' hSw; clear hSw; go_simp; with_reducible rfl)
          simp only [Act.put, List.setIfInBounds_toArray, List.set_cons_zero, List.set_cons_succ]
          refine AnyK.take (oi := { dst := _, op := _, type := _, pos := _, after := _, guard := _ }) 17 ?_ rfl (by kernel_rfl) (fun _ _ _ h => h) (Or.inl ⟨by rfl, ?_⟩) hS0 ?_
          rotate_left
          · (intro w' hSw; clear hSw; go_simp; with_reducible rfl)
          simp only [Act.put, List.setIfInBounds_toArray, List.set_cons_zero, List.set_cons_succ]
          refine AnyK.take (oi := { dst := _, op := _, type := _, pos := _, after := _, guard := _ }) 18 ?_ rfl (by kernel_rfl) (fun _ _ _ h => h) (Or.inl ⟨by rfl, ?_⟩) hS0 ?_
          rotate_left
          · (intro w' hSw; clear hSw; go_simp; with_reducible rfl)
          simp only [Act.put, List.setIfInBounds_toArray, List.set_cons_zero, List.set_cons_succ]
          refine AnyK.one 4 (by kernel_rfl) rfl (fun KK hK => ?_)
          go_simp
          refine (step_ex _ _ _ _ _ _ _ _ _).mono ?_; rintro e w5 ⟨q5, l5, o5, c5, rfl, H5, hb5⟩
          have hS5 := (⟨hS0.1.keep hb5, hS0.2.1.keep hb5, hS0.2.2.1.keep hb5, hS0.2.2.2.keep hb5⟩ : Box w5 g1 4 q1 true o1 N ∧ Box w5 g2 5 q2 true o2 c2 ∧ Box w5 g3 6 q3 true o3 c3 ∧ Box w5 g4 7 q4 true o4 c4)
          refine hK _ _ hS5 ?_
          clear hK
          refine AnyK.one 9 (by kernel_rfl) rfl (fun KK hK => ?_)
          go_simp
          refine (step_ex _ _ _ _ _ _ _ _ _).mono ?_; rintro e w6 ⟨q6, l6, o6, c6, rfl, H6, hb6⟩
          have hS6 := (⟨hS5.1.keep hb6, hS5.2.1.keep hb6, hS5.2.2.1.keep hb6, hS5.2.2.2.keep hb6⟩ : Box w6 g1 4 q1 true o1 N ∧ Box w6 g2 5 q2 true o2 c2 ∧ Box w6 g3 6 q3 true o3 c3 ∧ Box w6 g4 7 q4 true o4 c4)
          refine hK _ _ hS6 ?_
          clear hK
          refine AnyK.one 14 (by kernel_rfl) rfl (fun KK hK => ?_)
          go_simp
          refine (step_ex _ _ _ _ _ _ _ _ _).mono ?_; rintro e w7 ⟨q7, l7, o7, c7, rfl, H7, hb7⟩
          have hS7 := (⟨hS6.1.keep hb7, hS6.2.1.keep hb7, hS6.2.2.1.keep hb7, hS6.2.2.2.keep hb7⟩ : Box w7 g1 4 q1 true o1 N ∧ Box w7 g2 5 q2 true o2 c2 ∧ Box w7 g3 6 q3 true o3 c3 ∧ Box w7 g4 7 q4 true o4 c4)
          refine hK _ _ hS7 ?_
          clear hK
          refine AnyK.one 19 (by kernel_rfl) rfl (fun KK hK => ?_)
          go_simp
          refine (step_ex _ _ _ _ _ _ _ _ _).mono ?_; rintro e w8 ⟨q8, l8, o8, c8, rfl, H8, hb8⟩
          have hS8 := (⟨hS7.1.keep hb8, hS7.2.1.keep hb8, hS7.2.2.1.keep hb8, hS7.2.2.2.keep hb8⟩ : Box w8 g1 4 q1 true o1 N ∧ Box w8 g2 5 q2 true o2 c2 ∧ Box w8 g3 6 q3 true o3 c3 ∧ Box w8 g4 7 q4 true o4 c4)
          refine hK _ _ hS8 ?_
          clear hK
          obtain ⟨X8, Y8, V8, U8⟩ := hS8
          have B8 := keepB (keepB (keepB (keepB HB.out.drew hb5) hb6) hb7) hb8
          clear hb5 hb6 hb7 hb8 hS0 hS5 hS6 hS7
          obtain ⟨m0, m1, m2, m3, m4⟩ := cells5 X8
          obtain ⟨f0, f1, f2, f3, f4⟩ := froz5 X8
          refine AnyK.late 20 (by kernel_rfl) (by kernel_rfl) rfl (fun KK hK => ?_)
          go_simp
          refine hK _ _ ?_
          clear hK m0 m1 m2 m3 m4 f0 f1 f2 f3 f4
          have X20 := box_set X8 4 q5 l5 o5 c5
          have Y20 := Y8.other g1 (.int .i64 4) (.bool q5) (.bool l5) (.bool o5) (.int .i64 c5) (by omega)
          have V20 := V8.other g1 (.int .i64 4) (.bool q5) (.bool l5) (.bool o5) (.int .i64 c5) (by omega)
          have U20 := U8.other g1 (.int .i64 4) (.bool q5) (.bool l5) (.bool o5) (.int .i64 c5) (by omega)
          have B20 := below_set B8 g1 (.int .i64 4) (.bool q5) (.bool l5) (.bool o5) (.int .i64 c5) (by omega)
          generalize (((((w8.setCell ⟨g1, 0, none⟩ (.int .i64 4)).setCell ⟨g1, 1, none⟩ (.bool q5)).setCell ⟨g1, 2, none⟩ (.bool l5)).setCell ⟨g1, 3, none⟩ (.bool o5)).setCell ⟨g1, 4, none⟩ (.int .i64 c5)) = w20 at *
          clear X8 Y8 V8 U8 B8
          obtain ⟨m0, m1, m2, m3, m4⟩ := cells5 Y20
          obtain ⟨f0, f1, f2, f3, f4⟩ := froz5 Y20
          refine AnyK.late 21 (by kernel_rfl) (by kernel_rfl) rfl (fun KK hK => ?_)
          go_simp
          refine hK _ _ ?_
          clear hK m0 m1 m2 m3 m4 f0 f1 f2 f3 f4
          have X21 := X20.other g2 (.int .i64 5) (.bool q6) (.bool l6) (.bool o6) (.int .i64 c6) (by omega)
          have Y21 := box_set Y20 5 q6 l6 o6 c6
          have V21 := V20.other g2 (.int .i64 5) (.bool q6) (.bool l6) (.bool o6) (.int .i64 c6) (by omega)
          have U21 := U20.other g2 (.int .i64 5) (.bool q6) (.bool l6) (.bool o6) (.int .i64 c6) (by omega)
          have B21 := below_set B20 g2 (.int .i64 5) (.bool q6) (.bool l6) (.bool o6) (.int .i64 c6) (by omega)
          generalize (((((w20.setCell ⟨g2, 0, none⟩ (.int .i64 5)).setCell ⟨g2, 1, none⟩ (.bool q6)).setCell ⟨g2, 2, none⟩ (.bool l6)).setCell ⟨g2, 3, none⟩ (.bool o6)).setCell ⟨g2, 4, none⟩ (.int .i64 c6)) = w21 at *
          clear X20 Y20 V20 U20 B20
          obtain ⟨m0, m1, m2, m3, m4⟩ := cells5 V21
          obtain ⟨f0, f1, f2, f3, f4⟩ := froz5 V21
          refine AnyK.late 22 (by kernel_rfl) (by kernel_rfl) rfl (fun KK hK => ?_)
          go_simp
          refine hK _ _ ?_
          clear hK m0 m1 m2 m3 m4 f0 f1 f2 f3 f4
          have X22 := X21.other g3 (.int .i64 6) (.bool q7) (.bool l7) (.bool o7) (.int .i64 c7) (by omega)
          have Y22 := Y21.other g3 (.int .i64 6) (.bool q7) (.bool l7) (.bool o7) (.int .i64 c7) (by omega)
          have V22 := box_set V21 6 q7 l7 o7 c7
          have U22 := U21.other g3 (.int .i64 6) (.bool q7) (.bool l7) (.bool o7) (.int .i64 c7) (by omega)
          have B22 := below_set B21 g3 (.int .i64 6) (.bool q7) (.bool l7) (.bool o7) (.int .i64 c7) (by omega)
          generalize (((((w21.setCell ⟨g3, 0, none⟩ (.int .i64 6)).setCell ⟨g3, 1, none⟩ (.bool q7)).setCell ⟨g3, 2, none⟩ (.bool l7)).setCell ⟨g3, 3, none⟩ (.bool o7)).setCell ⟨g3, 4, none⟩ (.int .i64 c7)) = w22 at *
          clear X21 Y21 V21 U21 B21
          obtain ⟨m0, m1, m2, m3, m4⟩ := cells5 U22
          obtain ⟨f0, f1, f2, f3, f4⟩ := froz5 U22
          refine AnyK.late 23 (by kernel_rfl) (by kernel_rfl) rfl (fun KK hK => ?_)
          go_simp
          refine hK _ _ ?_
          clear hK m0 m1 m2 m3 m4 f0 f1 f2 f3 f4
          have X23 := X22.other g4 (.int .i64 7) (.bool q8) (.bool l8) (.bool o8) (.int .i64 c8) (by omega)
          have Y23 := Y22.other g4 (.int .i64 7) (.bool q8) (.bool l8) (.bool o8) (.int .i64 c8) (by omega)
          have V23 := V22.other g4 (.int .i64 7) (.bool q8) (.bool l8) (.bool o8) (.int .i64 c8) (by omega)
          have U23 := box_set U22 7 q8 l8 o8 c8
          have B23 := below_set B22 g4 (.int .i64 7) (.bool q8) (.bool l8) (.bool o8) (.int .i64 c8) (by omega)
          generalize (((((w22.setCell ⟨g4, 0, none⟩ (.int .i64 7)).setCell ⟨g4, 1, none⟩ (.bool q8)).setCell ⟨g4, 2, none⟩ (.bool l8)).setCell ⟨g4, 3, none⟩ (.bool o8)).setCell ⟨g4, 4, none⟩ (.int .i64 c8)) = w23 at *
          clear X22 Y22 V22 U22 B22
          refine AnyK.done (by kernel_rfl) ?_ _
          have e5 := (up_next (N := N) ⟨hN.1, by omega⟩ ⟨hp0, by omega⟩ rfl).symm.trans H5.out
          have e6 := (dn_next (N := N) ⟨hN.1, by omega⟩ ⟨hp0, by omega⟩ rfl HD.out).symm.trans H6.out
          have e7 := rise_next.symm.trans H7.out
          have e8 := fall_next.symm.trans H8.out
          simp only [St.mk.injEq] at e5 e6 e7 e8
          obtain ⟨e5q, rfl, rfl, rfl⟩ := e5
          obtain ⟨e6q, rfl, rfl, e6c⟩ := e6
          obtain ⟨rfl, rfl, rfl, rfl⟩ := e7
          obtain ⟨rfl, rfl, rfl, rfl⟩ := e8
          clear H5 H6 H7 H8 HX HY HV HU HB HD
          have hD' : (if true = true then c6 else P) = dn N P := by rw [← e6c]; rfl
          rcases Int.lt_trichotomy P N with hABC | hABC | hABC
          · have hc : P < N := by omega
            have g1' : decide (P ≤ N) = true := decide_eq_true (by omega)
            have g2' : dn N P = 0 := if_pos (by omega)
            have g3' : IntKind.i64.wrap (P - N) = P - N := IntWalk.i64_in _ (by omega)
            have g4' : P - N < 0 := by omega
            have g5' : P ≤ N := by omega
            rw [g1'] at e5q
            rw [g2'] at e6q e6c
            rw [show ((0 : Int) == 0) = true from rfl] at e6q
            subst e5q e6c e6q
            obtain ⟨x0, x1, x2, x3, x4⟩ := cells5 X23
            obtain ⟨y0, y1, y2, y3, y4⟩ := cells5 Y23
            obtain ⟨z0, z1, z2, z3, z4⟩ := cells5 V23
            obtain ⟨u0, u1, u2, u3, u4⟩ := cells5 U23
            have HX := Lib.hid X23
            have HY := Lib.hid Y23
            have HV := Lib.hid V23
            have HU := Lib.hid U23
            have HB := Lib.hid B23
            have HD := Lib.hid hD'
            clear X23 Y23 V23 U23 B23 hD'
            go_wp2_with fail
            refine ⟨⟨k + 1, N, _, _, _, true, _, _, _, _, _, _, _, _, by omega, by go_num, rfl, rfl, by omega, HX.out, HY.out, HD.out, HV.out, HU.out, HB.out⟩, ?_⟩
            simp [intOf]
            omega
          · subst hABC
            have g1' : decide (P ≤ P) = true := decide_eq_true (by omega)
            have g2' : dn P P = 0 := by unfold dn; split <;> omega
            rw [g1'] at e5q
            rw [g2'] at e6q e6c
            rw [show ((0 : Int) == 0) = true from rfl] at e6q
            subst e5q e6c e6q
            obtain ⟨x0, x1, x2, x3, x4⟩ := cells5 X23
            obtain ⟨y0, y1, y2, y3, y4⟩ := cells5 Y23
            obtain ⟨z0, z1, z2, z3, z4⟩ := cells5 V23
            obtain ⟨u0, u1, u2, u3, u4⟩ := cells5 U23
            have HX := Lib.hid X23
            have HY := Lib.hid Y23
            have HV := Lib.hid V23
            have HU := Lib.hid U23
            have HB := Lib.hid B23
            have HD := Lib.hid hD'
            clear X23 Y23 V23 U23 B23 hD'
            go_wp2_with fail
            refine ⟨⟨k + 1, P, _, _, _, true, _, _, _, _, _, _, _, _, by omega, by go_num, rfl, rfl, by omega, HX.out, HY.out, HD.out, HV.out, HU.out, HB.out⟩, ?_⟩
            simp [intOf]
            omega
          · have hc : N < P := by omega
            have g1' : decide (P ≤ N) = false := decide_eq_false (by omega)
            have g2' : dn N P = P - N := if_neg (by omega)
            have g3' : IntKind.i64.wrap (P - N) = P - N := IntWalk.i64_in _ (by omega)
            have g4' : ¬ P - N < 0 := by omega
            have g5' : ¬ P ≤ N := by omega
            have g6' : ¬ P - N = 0 := by omega
            have g7' : (P - N == 0) = false := by simpa using g6'
            rw [g1'] at e5q
            rw [g2'] at e6q e6c
            rw [g7'] at e6q
            subst e5q e6c e6q
            obtain ⟨x0, x1, x2, x3, x4⟩ := cells5 X23
            obtain ⟨y0, y1, y2, y3, y4⟩ := cells5 Y23
            obtain ⟨z0, z1, z2, z3, z4⟩ := cells5 V23
            obtain ⟨u0, u1, u2, u3, u4⟩ := cells5 U23
            have HX := Lib.hid X23
            have HY := Lib.hid Y23
            have HV := Lib.hid V23
            have HU := Lib.hid U23
            have HB := Lib.hid B23
            have HD := Lib.hid hD'
            clear X23 Y23 V23 U23 B23 hD'
            go_wp2_with fail
            refine ⟨⟨k + 1, N, _, _, _, true, _, _, _, _, _, _, _, _, by omega, by go_num, rfl, rfl, by omega, HX.out, HY.out, HD.out, HV.out, HU.out, HB.out⟩, ?_⟩
            simp [intOf]
            omega
      · obtain rfl : k = len := by omega
        have HB := Lib.hid hB
        clear hX hY hD hV hU hB
        go_wp2_with fail
        refine (awake_ _).mono ?_; rintro e w' ⟨rfl, hb⟩
        go_wp2_with fail
        go_ret
        exact ⟨rfl, keepB HB.out hb⟩
end Go.Proofs.Ythlkhlpilaglmaa
