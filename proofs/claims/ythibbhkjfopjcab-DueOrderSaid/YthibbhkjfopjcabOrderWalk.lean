/-
  DueOrder: the walk: those that are due are told by priority, of one by their numbers, each once, and no other one.
-/
import Derived.Test.YthibbhkjfopjcabWhichAny
namespace Go.Proofs.Ythibbhkjfopjcab
open Go.ChangeShapes Go.WideShapes Go.ChangeAt Go.RowKit

theorem due_is {e b a : Int} {v : Bool} (h : dueB e b a = v) (hma : a ≤ 9223372036854775807) (w : World) : Calls Try.prog 8 #[.int .i64 e, .int .i64 b, .int .i64 a] w fun en w' => en = .returned (.bool v) ∧ ∃ n, w' = w.drewN n := by
  subst h
  exact due_any e b a hma w
theorem below_drewN {B : Nat} {W w : World} (h : RowKit.Below B W w) (q : Nat) : RowKit.Below B W (w.drewN q) := ⟨h.os, h.tape, h.output, h.size, h.block⟩

set_option maxRecDepth 100000 in
set_option maxHeartbeats 4000000 in
theorem order_walk (js : List (Int × Int × Int)) (A : Option Addr) (len cap : Nat) (hl : js.length = len) (a1 a2 : Int) (w : World) (hjs : Jobs w A js) :
    Calls Try.prog 3 #[.slice A len cap, .int .i64 a1, .int .i64 a2] w fun e w' => e = .returned (.bool true) ∧ RowKit.Below w.heap.size w w' := by
  by_cases h20 : (20 : Int) < (len : Int)
  · have HJ := Lib.hid hjs
    clear hjs
    go_enter Try.func3, Try.ntmps3
    go_wp2_with fail
    refine (awake_any _).mono ?_
    rintro e w' ⟨rfl, hb⟩
    go_wp2_with fail
    go_ret
    exact ⟨rfl, hb⟩
  · obtain ⟨b21, b22⟩ := low_bd a1 1000 (by omega)
    obtain ⟨b31, b32⟩ := low_bd a2 50 (by omega)
    have HJ := Lib.hid hjs
    clear hjs
    go_enter Try.func3, Try.ntmps3
    go_wp2_with (go_at_call 6; refine (low_any _ _ (by omega) (by omega) _).mono ?_; rintro e w' ⟨rfl, rfl⟩)
    generalize low a1 1000 = F at *
    generalize low a2 50 = S at *
    refine (which_any js A len cap hl (by omega) F (F + S) (by omega) w HJ.out).mono ?_
    rintro e w1 ⟨A', n, c, xs, rfl, hi, hw, hb⟩
    have HI := Lib.hid hi
    have HW := Lib.hid hw
    have HB := Lib.hid hb
    have HL := Lib.hid hl
    have hn : n = cnt js F (F + S) len := by rw [← hi.1, hw.length, hl]
    have hn20 : n ≤ len := by rw [hn]; exact cnt_le _ _ _ _
    have HN := Lib.hid hn
    clear hi hw hb hl hn
    go_wp2_with fail
    go_loopw [8, 9] (fun m i wr => ∃ k : Nat, k ≤ len ∧ i = .int .i64 (k : Int) ∧ m = .int .i64 (cnt js F (F + S) k : Int) ∧ ∃ q, wr = w1.drewN q) (fun _ i _ => len - (intOf i).toNat)
    case atStart => exact ⟨0, Nat.zero_le _, rfl, rfl, 0, rfl⟩
    case round =>
      obtain ⟨k, hk, rfl, rfl, q, rfl⟩ := hrel
      by_cases hlt : k < len
      · obtain ⟨jb, off, rfl, hjb, hc⟩ := HJ.out (by have := HL.out; omega)
        obtain ⟨⟨jc, je, jf⟩, hjk⟩ : ∃ j, js[k]? = some j := ⟨js[k]'(by have := HL.out; omega), List.getElem?_eq_getElem _⟩
        have c1 : (w1.drewN q).cell? ⟨jb, off + k * 3 + 1, none⟩ = some (.int .i64 je) := (HB.out.cell hjb).trans (hc _ _ hjk).2.1
        have hev : everyOf js k = je := by simp [everyOf, List.getD, hjk]
        have hck := cnt_le js F (F + S) k
        clear hc
        have i1 : (k : Int) < (len : Int) := by omega
        have i0 : (0 : Int) ≤ (k : Int) := by omega
        have HK := Lib.hid hjk
        clear hjk
        by_cases hdue : dueB je F (F + S) = true
        · have hcs : cnt js F (F + S) (k + 1) = cnt js F (F + S) k + 1 := by rw [cnt, hev, hdue]; rfl
          have HC := Lib.hid hcs
          have HE := Lib.hid hev
          clear hcs hev
          go_wp2_with (go_at_call 8; refine (due_is hdue (by omega) _).mono ?_; rintro e w2 ⟨rfl, q2, rfl⟩)
          go_roundw
          case rel => exact ⟨k + 1, by omega, by go_num, by rw [HC.out]; go_num, _, rfl⟩
          case measure => simp [intOf]; omega
        · have hd : dueB je F (F + S) = false := by simpa using hdue
          have hcs : cnt js F (F + S) (k + 1) = cnt js F (F + S) k := by rw [cnt, hev, hd]; rfl
          have HC := Lib.hid hcs
          have HE := Lib.hid hev
          clear hcs hev
          go_wp2_with (go_at_call 8; refine (due_is hd (by omega) _).mono ?_; rintro e w2 ⟨rfl, q2, rfl⟩)
          go_roundw
          case rel => exact ⟨k + 1, by omega, by go_num, by rw [HC.out], _, rfl⟩
          case measure => simp [intOf]; omega
      · obtain rfl : k = len := by omega
        rw [← HN.out]
        go_wp2_with fail
        go_loopw [10] (fun i wr => ∃ k : Nat, k ≤ n ∧ i = .int .i64 (k : Int) ∧ ∃ q, wr = w1.drewN q) (fun i _ => n - (intOf i).toNat)
        case atStart => exact ⟨0, Nat.zero_le _, rfl, _, rfl⟩
        case round =>
          obtain ⟨i, hi, rfl, q', rfl⟩ := hrel
          by_cases hlt : i < n
          · obtain ⟨g, offA, rfl, hA⟩ := HI.out.2 (by omega)
            have hxl : xs.length = n := HI.out.1
            have hx : xs.getD i 0 ∈ xs := by
              rw [List.getD, List.getElem?_eq_getElem (by omega)]
              exact List.getElem_mem _
            obtain ⟨m, hm, hml, hmd⟩ := HW.out.each _ hx
            obtain ⟨jb, off, rfl, hjb, hc⟩ := HJ.out (by omega)
            obtain ⟨⟨jc, je, jf⟩, hjk⟩ : ∃ j, js[m]? = some j := ⟨js[m], List.getElem?_eq_getElem _⟩
            have c0 : (w1.drewN q').cell? ⟨g, offA + i, none⟩ = some (.int .i64 (m : Int)) := by rw [← hm]; exact hA i hlt
            have c1 : (w1.drewN q').cell? ⟨jb, off + m * 3 + 1, none⟩ = some (.int .i64 je) := (HB.out.cell hjb).trans (hc _ _ hjk).2.1
            have c2 : (w1.drewN q').cell? ⟨jb, off + m * 3 + 2, none⟩ = some (.int .i64 jf) := (HB.out.cell hjb).trans (hc _ _ hjk).2.2
            have hev : everyOf js m = je := by simp [everyOf, List.getD, hjk]
            have hfi : firstOf js m = jf := by simp [firstOf, List.getD, hjk]
            rw [hev] at hmd
            have i1 : (i : Int) < (n : Int) := by omega
            have i0 : (0 : Int) ≤ (i : Int) := by omega
            have m1 : (m : Int) < (k : Int) := by have := HL.out; omega
            have m0 : (0 : Int) ≤ (m : Int) := by omega
            have HH := Lib.hid (And.intro hm (And.intro hfi hA))
            have HC := Lib.hid hc
            have HK := Lib.hid hjk
            clear hm hfi hA hc hjk hx hev
            go_wp2_with (go_at_call 8; refine (due_is hmd (by omega) _).mono ?_; rintro e w2 ⟨rfl, q2, rfl⟩)
            by_cases hz : i = 0
            · subst hz
              go_quiet (fail)
              go_wp2_with fail
              go_roundw
              case rel => exact ⟨1, by omega, by go_num, _, rfl⟩
              case measure => simp [intOf]; omega
            · obtain ⟨p, hp⟩ : ∃ p, i = p + 1 := ⟨i - 1, by omega⟩
              have hx : xs.getD p 0 ∈ xs := by
                rw [List.getD, List.getElem?_eq_getElem (by omega)]
                exact List.getElem_mem _
              obtain ⟨m', hm', hml', hmd'⟩ := HW.out.each _ hx
              obtain ⟨⟨jc', je', jf'⟩, hjk'⟩ : ∃ j, js[m']? = some j := ⟨js[m'], List.getElem?_eq_getElem _⟩
              have d0 : w1.cell? ⟨g, offA + p, none⟩ = some (.int .i64 (m' : Int)) := by rw [← hm']; exact HH.out.2.2 p (by omega)
              have d2 : w1.cell? ⟨jb, off + m' * 3 + 2, none⟩ = some (.int .i64 jf') := (HB.out.cell hjb).trans (HC.out _ _ hjk').2.2
              have hfi' : firstOf js m' = jf' := by simp [firstOf, List.getD, hjk']
              have ho := List.pairwise_iff_getElem.1 HW.out.order p i (by omega) (by omega) (by omega)
              have e1 : xs[p]'(by omega) = (m' : Int) := by rw [← hm', List.getD, List.getElem?_eq_getElem (by omega)]; rfl
              have e2 : xs[i]'(by omega) = (m : Int) := by rw [← HH.out.1, List.getD, List.getElem?_eq_getElem (by omega)]; rfl
              rw [e1, e2, Int.toNat_natCast, Int.toNat_natCast, hfi', HH.out.2.1] at ho
              have c0' : w1.cell? ⟨g, offA + i, none⟩ = some (.int .i64 (m : Int)) := c0
              have c2' : w1.cell? ⟨jb, off + m * 3 + 2, none⟩ = some (.int .i64 jf) := c2
              clear c0 c1 c2
              have hpi : (i : Int) - 1 = (p : Int) := by omega
              have p1 : (p : Int) < (n : Int) := by omega
              have p0 : (0 : Int) ≤ (p : Int) := by omega
              have n1 : (m' : Int) < (k : Int) := by have := HL.out; omega
              have n0 : (0 : Int) ≤ (m' : Int) := by omega
              have hi0 : (0 : Int) < (i : Int) := by omega
              have hin : 0 < i := by omega
              have hwr : IntKind.i64.wrap (p : Int) = (p : Int) := IntWalk.i64_in _ (by omega)
              have t0 : decide ((0 : Int) < (i : Int)) = true := decide_eq_true hi0
              have HP := Lib.hid hp
              clear hx hmd' hjk' hfi' e1 e2 hm' hp
              rcases ho with ho | ⟨ho, hom⟩
              · have t1 : decide (jf < jf') = false := decide_eq_false (by omega)
                have t2 : (jf' == jf) = false := by simp; omega
                clear ho
                go_quiet (fail)
                go_wp2_with fail
                go_roundw
                case rel => exact ⟨i + 1, by omega, by go_num, _, rfl⟩
                case measure => simp [intOf]; omega
              · subst ho
                have t3 : decide ((m : Int) ≤ (m' : Int)) = false := decide_eq_false (by omega)
                go_quiet (fail)
                go_wp2_with fail
                go_roundw
                case rel => exact ⟨i + 1, by omega, by go_num, _, rfl⟩
                case measure => simp [intOf]; omega
          · go_wp2_with fail
            refine (awake_any _).mono ?_
            rintro e w' ⟨rfl, hb⟩
            have HBB := Lib.hid hb
            clear hb
            go_wp2_with fail
            go_ret
            refine ⟨rfl, ?_⟩
            have h0 := below_drewN HB.out q'
            exact h0.trans (HBB.out.mono h0.size)
end Go.Proofs.Ythibbhkjfopjcab
