/-
  DueParts: the walk: what is due from one time to another one is what is due up to a time between, and from there on.
-/
import Derived.Test.YthibbhkjfopjcabHas
namespace Go.Proofs.Ythibbhkjfopjcab
open Go.ChangeShapes Go.WideShapes Go.ChangeAt Go.RowKit

theorem due_at {e b a : Int} {v : Bool} (h : dueB e b a = v) (hma : a ≤ 9223372036854775807) (w : World) : Calls Try.prog 8 #[.int .i64 e, .int .i64 b, .int .i64 a] w fun en w' => en = .returned (.bool v) ∧ ∃ n, w' = w.drewN n := by
  subst h
  exact due_any e b a hma w
theorem below_drew {B : Nat} {W w : World} (h : RowKit.Below B W w) (q : Nat) : RowKit.Below B W (w.drewN q) := ⟨h.os, h.tape, h.output, h.size, h.block⟩
theorem jobs_drew {w : World} {A : Option Addr} {js : List (Int × Int × Int)} (h : Jobs w A js) (q : Nat) : Jobs (w.drewN q) A js := h
theorem has_q {A : Option Addr} {n c : Nat} {xs : List Int} {x : Int} {v : Bool} {w : World} (h : Ints w A n xs) (hv : decide (x ∈ xs) = v) (hn : n ≤ 1000000) (k : Nat) :
    Calls Try.prog 9 #[.slice A n c, .int .i64 x] (w.drewN k) fun e w' => e = .returned (.bool v) ∧ w' = w.drewN k := by
  subst hv
  exact (has_any A n c xs x hn (w.drewN k) (h.drewN k)).mono fun e w' h => ⟨h.1, h.2.symm⟩

theorem due_add {e F G1 G2 : Int} (h0 : 0 ≤ F) (h1 : F ≤ G1) (h2 : G1 ≤ G2) : dueB e F G2 = (dueB e F G1 || dueB e G1 G2) := by
  by_cases he : 1 ≤ e
  · have m1 : F / e ≤ G1 / e := Int.ediv_le_ediv (by omega) h1
    have m2 : G1 / e ≤ G2 / e := Int.ediv_le_ediv (by omega) h2
    rw [← due_eq he h0 h1, ← due_eq he (by omega) h2, ← due_eq he h0 (by omega), ← Bool.decide_or]
    congr 1
    simp only [eq_iff_iff]
    omega
  · simp [dueB, he]
theorem due_same (e F : Int) : dueB e F F = false := by simp [dueB]
theorem cnt_same (js : List (Int × Int × Int)) (F : Int) : ∀ k, cnt js F F k = 0
  | 0 => rfl
  | k + 1 => by rw [cnt, due_same, cnt_same js F k]; rfl
theorem cnt_add (js : List (Int × Int × Int)) {F G1 G2 : Int} (h0 : 0 ≤ F) (h1 : F ≤ G1) (h2 : G1 ≤ G2) : ∀ k, cnt js F G2 k ≤ cnt js F G1 k + cnt js G1 G2 k ∧ cnt js F G1 k ≤ cnt js F G2 k ∧ cnt js G1 G2 k ≤ cnt js F G2 k
  | 0 => ⟨Nat.le_refl _, Nat.le_refl _, Nat.le_refl _⟩
  | k + 1 => by
    have ih := cnt_add js h0 h1 h2 k
    simp only [cnt]
    rw [due_add (e := everyOf js k) h0 h1 h2]
    cases dueB (everyOf js k) F G1 <;> cases dueB (everyOf js k) G1 G2 <;> simp <;> omega
theorem WhichIs.mem {js : List (Int × Int × Int)} {b a : Int} {xs : List Int} (h : WhichIs js b a xs) {k : Nat} (hk : k < js.length) {e : Int} (he : everyOf js k = e) {v : Bool} (hv : dueB e b a = v) : decide ((k : Int) ∈ xs) = v := by
  subst he hv
  cases hd : dueB (everyOf js k) b a with
  | true => exact decide_eq_true (h.all k hk hd)
  | false =>
    refine decide_eq_false fun hm => ?_
    obtain ⟨i, hi, _, h2⟩ := h.each _ hm
    obtain rfl : k = i := by omega
    rw [hd] at h2; cases h2

set_option maxRecDepth 100000 in
set_option maxHeartbeats 4000000 in
theorem parts_walk (js : List (Int × Int × Int)) (A : Option Addr) (len cap : Nat) (hl : js.length = len) (a1 a2 a3 : Int) (w : World) (hjs : Jobs w A js) :
    Calls Try.prog 4 #[.slice A len cap, .int .i64 a1, .int .i64 a2, .int .i64 a3] w fun e w' => e = .returned (.bool true) ∧ RowKit.Below w.heap.size w w' := by
  by_cases h20 : (20 : Int) < (len : Int)
  · have HJ := Lib.hid hjs
    clear hjs
    go_enter Try.func4, Try.ntmps4
    go_wp2_with fail
    refine (awake_any _).mono ?_
    rintro e w' ⟨rfl, hb⟩
    go_wp2_with fail
    go_ret
    exact ⟨rfl, hb⟩
  · obtain ⟨b21, b22⟩ := low_bd a1 1000 (by omega)
    obtain ⟨b31, b32⟩ := low_bd a2 100 (by omega)
    obtain ⟨b41, b42⟩ := low_bd a3 100 (by omega)
    have HJ := Lib.hid hjs
    clear hjs
    go_enter Try.func4, Try.ntmps4
    go_wp2_with (go_at_call 6; refine (low_any _ _ (by omega) (by omega) _).mono ?_; rintro e w' ⟨rfl, rfl⟩)
    generalize low a1 1000 = F at *
    generalize low a2 100 = S at *
    generalize low a3 100 = T at *
    refine (which_any js A len cap hl (by omega) F (F + S + T) (by omega) w HJ.out).mono ?_
    rintro e w1 ⟨A1, n1, c1, xs1, rfl, hi1, hw1, hb1⟩
    have HI1 := Lib.hid hi1
    have HW1 := Lib.hid hw1
    have HB1 := Lib.hid hb1
    clear hi1 hw1 hb1
    go_wp2_with fail
    refine (which_any js A len cap hl (by omega) F (F + S) (by omega) w1 (HJ.out.keep HB1.out)).mono ?_
    rintro e w2 ⟨A2, n2, c2, xs2, rfl, hi2, hw2, hb2⟩
    have HI2 := Lib.hid hi2
    have HW2 := Lib.hid hw2
    have HB2 := Lib.hid (HB1.out.trans (hb2.mono HB1.out.size))
    have HI12 := Lib.hid (HI1.out.keep hb2)
    clear hi2 hw2 hb2
    go_wp2_with fail
    refine (which_any js A len cap hl (by omega) (F + S) (F + S + T) (by omega) w2 (HJ.out.keep HB2.out)).mono ?_
    rintro e w3 ⟨A3, n3, c3, xs3, rfl, hi3, hw3, hb3⟩
    have HI3 := Lib.hid hi3
    have HW3 := Lib.hid hw3
    have HB3 := Lib.hid (HB2.out.trans (hb3.mono HB2.out.size))
    have HI13 := Lib.hid (HI12.out.keep hb3)
    have HI23 := Lib.hid (HI2.out.keep hb3)
    clear hi3 hw3 hb3 HI12
    have hc := cnt_add js (F := F) (G1 := F + S) (G2 := F + S + T) (by omega) (by omega) (by omega) len
    have l1 : n1 = cnt js F (F + S + T) len := by rw [← HI1.out.1, HW1.out.length, hl]
    have l2 : n2 = cnt js F (F + S) len := by rw [← HI2.out.1, HW2.out.length, hl]
    have l3 : n3 = cnt js (F + S) (F + S + T) len := by rw [← HI3.out.1, HW3.out.length, hl]
    rw [← l1, ← l2, ← l3] at hc
    have q1 : n1 ≤ 20 := by rw [l1]; have := cnt_le js F (F + S + T) len; omega
    have q2 : n2 ≤ 20 := by rw [l2]; have := cnt_le js F (F + S) len; omega
    have q3 : n3 ≤ 20 := by rw [l3]; have := cnt_le js (F + S) (F + S + T) len; omega
    obtain ⟨hc1, hc2, hc3⟩ := hc
    have HL := Lib.hid hl
    clear l1 l2 l3 hl
    go_wp2_with fail
    go_loopw [12] (fun i wr => ∃ k : Nat, k ≤ len ∧ i = .int .i64 (k : Int) ∧ ∃ q, wr = w3.drewN q) (fun i _ => len - (intOf i).toNat)
    case atStart => exact ⟨0, Nat.zero_le _, rfl, 0, rfl⟩
    case round =>
      obtain ⟨k, hk, rfl, q, rfl⟩ := hrel
      by_cases hlt : k < len
      · obtain ⟨jb, off, rfl, hjb, hcc⟩ := HJ.out (by have := HL.out; omega)
        obtain ⟨⟨jc, je, jf⟩, hjk⟩ : ∃ j, js[k]? = some j := ⟨js[k]'(by have := HL.out; omega), List.getElem?_eq_getElem _⟩
        obtain ⟨wq, hwq⟩ : ∃ wq, wq = w3.drewN q := ⟨_, rfl⟩
        have d1 : wq.cell? ⟨jb, off + k * 3 + 1, none⟩ = some (.int .i64 je) := hwq ▸ (HB3.out.cell hjb).trans (hcc _ _ hjk).2.1
        have hev : everyOf js k = je := by simp [everyOf, List.getD, hjk]
        have hkl : k < js.length := by have := HL.out; omega
        have i1 : (k : Int) < (len : Int) := by omega
        have i0 : (0 : Int) ≤ (k : Int) := by omega
        have s1 : Ints wq A1 n1 xs1 := hwq ▸ HI13.out
        have s2 : Ints wq A2 n2 xs2 := hwq ▸ HI23.out
        have s3 : Ints wq A3 n3 xs3 := hwq ▸ HI3.out
        have f1 : IntKind.i64.wrap (F + S) = F + S := IntWalk.i64_in _ (by omega)
        have f2 : IntKind.i64.wrap (F + S + T) = F + S + T := IntWalk.i64_in _ (by omega)
        have hadd := due_add (e := je) (F := F) (G1 := F + S) (G2 := F + S + T) (by omega) (by omega) (by omega)
        rw [← hwq]
        have HWQ := Lib.hid hwq
        clear hcc hjk hwq
        cases hQ : dueB je F (F + S) with
        | true =>
          rw [hQ, Bool.true_or] at hadd
          have m1 := HW1.out.mem hkl hev hadd
          have m2 := HW2.out.mem hkl hev hQ
          go_wp2_with fail
          go_quiet (first | (go_at_call 9; exact Calls.quiet_of_same (has_q (by assumption) (by assumption) (by omega) _)) | (go_at_call 8; exact Calls.quiet_of (due_at hadd (by omega) _)))
          go_wp2_with fail
          go_roundw
          case rel => exact ⟨k + 1, by omega, by go_num, q + _, by rw [HWQ.out, World.drewN_drewN]⟩
          case measure => simp [intOf]; omega
        | false =>
          cases hR : dueB je (F + S) (F + S + T) with
          | true =>
            rw [hQ, hR, Bool.false_or] at hadd
            have m1 := HW1.out.mem hkl hev hadd
            have m2 := HW2.out.mem hkl hev hQ
            have m3 := HW3.out.mem hkl hev hR
            go_wp2_with fail
            go_quiet (first | (go_at_call 9; exact Calls.quiet_of_same (has_q (by assumption) (by assumption) (by omega) _)) | (go_at_call 8; exact Calls.quiet_of (due_at hadd (by omega) _)))
            go_wp2_with fail
            go_roundw
            case rel => exact ⟨k + 1, by omega, by go_num, q + _, by rw [HWQ.out, World.drewN_drewN]⟩
            case measure => simp [intOf]; omega
          | false =>
            rw [hQ, hR, Bool.false_or] at hadd
            have m1 := HW1.out.mem hkl hev hadd
            have m2 := HW2.out.mem hkl hev hQ
            have m3 := HW3.out.mem hkl hev hR
            go_wp2_with fail
            go_quiet (first | (go_at_call 9; exact Calls.quiet_of_same (has_q (by assumption) (by assumption) (by omega) _)) | (go_at_call 8; exact Calls.quiet_of (due_at hadd (by omega) _)))
            go_wp2_with fail
            go_roundw
            case rel => exact ⟨k + 1, by omega, by go_num, q + _, by rw [HWQ.out, World.drewN_drewN]⟩
            case measure => simp [intOf]; omega
      · go_wp2_with fail
        refine (which_any js A len cap HL.out (by omega) F F (by omega) (w3.drewN q) (jobs_drew (HJ.out.keep HB3.out) q)).mono ?_
        rintro e w4 ⟨A4, n4, c4, xs4, rfl, hi4, hw4, hb4⟩
        obtain rfl : n4 = 0 := by rw [← hi4.1, hw4.length, cnt_same]
        have HB4 := Lib.hid ((below_drew HB3.out q).trans (hb4.mono (show w.heap.size ≤ (w3.drewN q).heap.size from HB3.out.size)))
        clear hi4 hw4 hb4
        have hmx : max (n2 : Int) (n3 : Int) ≤ (n1 : Int) := by omega
        have hsm : (n1 : Int) ≤ (n2 : Int) + (n3 : Int) := by omega
        go_wp2_with fail
        refine (awake_any _).mono ?_
        rintro e w5 ⟨rfl, hb⟩
        have HBB := Lib.hid hb
        clear hb
        go_wp2_with fail
        go_ret
        exact ⟨rfl, HB4.out.trans (HBB.out.mono HB4.out.size)⟩
end Go.Proofs.Ythibbhkjfopjcab
