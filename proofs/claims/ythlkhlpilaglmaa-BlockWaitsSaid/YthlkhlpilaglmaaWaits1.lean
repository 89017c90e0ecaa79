/-
  BlockWaits: the walk, for a block of kind 2.
-/
import Derived.Test.YthlkhlpilaglmaaWaitsPlain
namespace Go.Proofs.Ythlkhlpilaglmaa
open Go.ChangeShapes Go.WideShapes Go.ChangeAt Go.RowKit
attribute [local go_sem ↓] Go.wp_at_zero Go.wp_at_succ

set_option maxRecDepth 100000 in
set_option maxHeartbeats 8000000 in
theorem waits_1 (k : Int) (q l o : Bool) (c : Int) (i : Bool) (p x y : Int) (w : World) (hr : low k 3 = 1) :
    Calls Try.prog 6 #[blk k q l o c, .bool i, .int .i64 p, .int .i64 x, .int .i64 y] w fun e w' => e = .returned (.bool true) ∧ Below w.heap.size w w' := by
  have hb := low_bd c 32768 (by omega)
  go_enter Try.func6, Try.ntmps6
  go_upto_region 2 with (go_at_call 11; refine (low_any _ _ (by omega) (by omega) _).mono ?_; rintro e w' ⟨rfl, rfl⟩)
  go_cut [] (fun wx => Own w 2 q l o (low c 32768) wx)
  case first =>
    go_region_with (go_at_call 11; refine (low_any _ _ (by omega) (by omega) _).mono ?_; rintro e w1 ⟨rfl, rfl⟩)
    all_goals
      go_wp2_with fail
      go_meet
    all_goals exact own_made _ _ _ _ _ _ _
  case rest =>
  obtain ⟨hbx, hbl⟩ := hcut
  have hlt := heap_lt hbx
  obtain ⟨m0, m1, m2, m3, m4⟩ := cells5 hbx
  have hfz : ∀ n, wc.frozen? ⟨w.heap.size, n, none⟩ = false := fun n => by simp [World.frozen?, hbx]
  have f3 := hfz 3
  have HX := Lib.hid hbx
  have HL := Lib.hid hbl
  clear hbx hbl hfz
  go_upto_region 3 with fail
  go_cut [48] (fun s48 wx => s48 = .bool (i && !o && (2 == 1 || (2 == 3 && !l))) ∧ wx = wc)
  case first =>
    cases i <;> cases o <;> cases l
    all_goals
      go_wp2_with fail
      go_meet
      exact ⟨rfl, rfl⟩
  case rest =>
  obtain ⟨rfl, rfl⟩ := hcut
  go_upto_if 48 with fail
  go_cut [] (fun wx => Own w 2 q l (onO 2 l o i) (low c 32768) wx)
  case first =>
    cases i <;> cases o <;> cases l
    all_goals
      go_wp2_with fail
      go_meet
      first | exact ⟨HX.out, HL.out⟩ | exact own_on HX.out HL.out
  case rest =>
  obtain ⟨hbx, hbl⟩ := hcut
  clear m0 m1 m2 m3 m4 f3 HX HL hlt
  have hlt := heap_lt hbx
  have HX := Lib.hid hbx
  have HL := Lib.hid hbl
  obtain ⟨m0, m1, m2, m3, m4⟩ := cells5 hbx
  clear hbx hbl
  obtain ⟨hx0, hx1⟩ := low_bd x 501 (by omega)
  obtain ⟨hy0, hy1⟩ := low_bd y 501 (by omega)
  go_wp2_with fail
  refine (step_ex _ _ _ _ _ _ _ _ _).mono ?_; rintro e w1 ⟨q1, l1, o1, c1, rfl, H1, hb1⟩
  have HB1 := Lib.hid hb1
  have hz1 := hb1.size
  obtain ⟨d0, d1, d2, d3, d4⟩ := cells5 (w := w1.alloc (.cells #[.int .i64 2, .bool q1, .bool l1, .bool o1, .int .i64 c1] 23)) ((heap_old (by omega)).trans ((hb1.block _ hlt).trans HX.out))
  clear hb1
  go_wp2_with fail
  refine (step_ex _ _ _ _ _ _ _ _ _).mono ?_; rintro e w2 ⟨q2, l2, o2, c2, rfl, H2, hb2⟩
  have HB2 := Lib.hid hb2
  have hz2 := hb2.size
  clear hb2
  go_wp2_with fail
  refine (step_ex _ _ _ _ _ _ _ _ _).mono ?_; rintro e w3 ⟨q3, l3, o3, c3, rfl, H3, hb3⟩
  have HB3 := Lib.hid hb3
  have hz3 := hb3.size
  clear hb3
  have e13 : (⟨q3, l3, o3, c3⟩ : St) = ⟨q1, l1, o1, c1⟩ := H3.out.symm.trans ((twice2 q l (onO 2 l o i) (low c 32768) i p _ _ ⟨hb.1, by omega⟩ ⟨hx0, by omega⟩ ⟨hy0, by omega⟩  H2.out).trans H1.out)
  have el : l1 = i := st_l (by omega) H1.out
  simp only [St.mk.injEq] at e13
  obtain ⟨rfl, rfl, rfl, rfl⟩ := e13
  subst el
  obtain ⟨g0, g1, g2, g3, g4⟩ := cells5 (w := w3.alloc (.cells #[.int .i64 2, .bool q3, .bool l3, .bool o3, .int .i64 c3] 23)) ((heap_old (by simp at hz2; omega)).trans ((HB3.out.block _ (by simp at hz2; omega)).trans ((HB2.out.block _ (by simp)).trans (heap_new rfl))))
  clear d0 d1 d2 d3 d4 m0 m1 m2 m3 m4 H1 H2 H3
  go_wp2_with fail
  refine (awake_ _).mono ?_; rintro e w4 ⟨rfl, hb4⟩
  go_wp2_with fail
  go_ret
  refine ⟨rfl, ?_⟩
  have b1 := keepB HL.out HB1.out
  have b2 := keepB (b1.alloc b1.size (.cells #[.int .i64 2, .bool q3, .bool l3, .bool o3, .int .i64 c3] 23)) HB2.out
  have b3 := keepB b2 HB3.out
  exact keepB (b3.alloc b3.size _) hb4
end Go.Proofs.Ythlkhlpilaglmaa
