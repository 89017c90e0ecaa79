/-
  Two lists of scans that say the same.
-/
import Derived.Test.YtjbagjmjbfiddaaGreatDoorTexts2
namespace Go.Proofs.YtjbagjmjbfiddaaGreatDoor
open Go.ChangeShapes Go.WideShapes Go.ChangeAt Go.RowKit

set_option maxHeartbeats 1000000 in
set_option maxRecDepth 100000 in
theorem ints_same (a b : Option Addr) (l c d : Nat) (ns : List Int) (w : World) (ha : Ints w a l ns) (hb : Ints w b l ns) (hm : l ≤ 1000000) :
    Calls Tryz.prog 31 #[.slice a l c, .slice b l d] w fun e w' => e = .returned (.bool true) ∧ ∃ n, w' = w.drewN n := by
  have HA := Lib.hid ha
  have HB := Lib.hid hb
  have hl := ha.1
  clear ha hb
  go_enter Tryz.func31, Tryz.ntmps31
  go_wp2_with fail
  go_loopw [5] (fun i wr => ∃ k n : Nat, k ≤ l ∧ i = .int .i64 (k : Nat) ∧ wr = w.drewN n) (fun i _ => l - (intOf i).toNat)
  case atStart => exact ⟨0, 0, Nat.zero_le _, rfl, by first | rfl | simp⟩
  case round =>
    obtain ⟨k, n, hk, rfl, rfl⟩ := hrel
    by_cases hlt : k < l
    · obtain ⟨x, hx⟩ : ∃ x, ns[k]? = some x := ⟨_, List.getElem?_eq_getElem (by omega)⟩
      obtain ⟨ab, ao, rfl, hca⟩ := HA.out.2 (by omega)
      obtain ⟨bb, bo, rfl, hcb⟩ := HB.out.2 (by omega)
      have c0 := hca k x hx
      have c1 := hcb k x hx
      have i0 : (k : Int) < (l : Int) := by omega
      have i1 : (0 : Int) ≤ (k : Int) := by omega
      clear hca hcb
      go_wp2_with fail
      go_quiet (fail)
      go_wp2_with fail
      exact ⟨⟨k + 1, _, by omega, by go_num, by first | exact World.drewN_drewN .. | rfl⟩, by simp [intOf]; omega⟩
    · obtain rfl : k = l := by omega
      go_wp2_with fail
      go_ret
      exact ⟨rfl, _, rfl⟩

theorem Ints.drewN {w : World} {a : Option Addr} {l : Nat} {ns : List Int} (h : Ints w a l ns) (n : Nat) : Ints (w.drewN n) a l ns := h
set_option maxHeartbeats 1000000 in
set_option maxRecDepth 100000 in
theorem scans_same (A B : Option Addr) (l c d : Nat) (S T : List ScA) (w : World) (hA : Scans w A S) (hB : Scans w B T) (hS : S.length = l) (hT : T.length = l) (hv : S.map val = T.map val) (hm : l ≤ 1000000) (hm1 : ∀ (i : Nat) (x : ScA), S[i]? = some x → x.l ≤ 1000000) :
    Calls Tryz.prog 15 #[.slice A l c, .slice B l d] w fun e w' => e = .returned (.bool true) ∧ ∃ n, w' = w.drewN n := by
  have HA := Lib.hid hA
  have HB := Lib.hid hB
  have HV := Lib.hid hv
  have HM := Lib.hid hm1
  clear hA hB hv hm1
  go_enter Tryz.func15, Tryz.ntmps15
  go_wp2_with fail
  go_loopw [5] (fun i wr => ∃ k n : Nat, k ≤ l ∧ i = .int .i64 (k : Nat) ∧ wr = w.drewN n) (fun i _ => l - (intOf i).toNat)
  case atStart => exact ⟨0, 0, Nat.zero_le _, rfl, by first | rfl | simp⟩
  case round =>
    obtain ⟨k, n, hk, rfl, hwr⟩ := hrel
    have HWR := Lib.hid hwr
    by_cases hlt : k < l
    · obtain ⟨⟨xa, xl, xc, xns, xt⟩, hx⟩ : ∃ x, S[k]? = some x := ⟨_, List.getElem?_eq_getElem (by omega)⟩
      obtain ⟨⟨ya, yl, yc, yns, yt⟩, hy⟩ : ∃ x, T[k]? = some x := ⟨_, List.getElem?_eq_getElem (by omega)⟩
      have hxy : val ⟨xa, xl, xc, xns, xt⟩ = val ⟨ya, yl, yc, yns, yt⟩ := by
        have := congrArg (fun m => m[k]?) HV.out
        simp only [List.getElem?_map, hx, hy, Option.map_some] at this
        exact Option.some.inj this
      simp only [val, Prod.mk.injEq] at hxy
      obtain ⟨rfl, rfl⟩ := hxy
      have hxl := HM.out k _ hx
      obtain ⟨ab, ao, rfl, hca⟩ := HA.out (by omega)
      obtain ⟨bb, bo, rfl, hcb⟩ := HB.out (by omega)
      obtain ⟨c0, c1, ci⟩ := hca k _ hx
      obtain ⟨d0, d1, di⟩ := hcb k _ hy
      simp only at c0 c1 ci d0 d1 di hxl
      obtain rfl : yl = xl := by have := ci.1; have := di.1; omega
      have ci : Ints wr xa yl xns := by rw [hwr]; exact ci.drewN n
      have di : Ints wr ya yl xns := by rw [hwr]; exact di.drewN n
      have hin : ∀ q, Calls Tryz.prog 31 #[.slice xa yl xc, .slice ya yl yc] (wr.drewN q) fun e w'' => e = .returned (.bool true) ∧ ∃ m, w'' = (wr.drewN q).drewN m := fun q => ints_same xa ya yl xc yc _ (wr.drewN q) (ci.drewN q) (di.drewN q) hxl
      rw [Nat.mul_comm 2 k] at c0 c1 d0 d1
      have c0 : wr.cell? ⟨ab, ao + k * 2, none⟩ = some (.slice xa yl xc) := by rw [hwr]; exact c0
      have c1 : wr.cell? ⟨ab, ao + k * 2 + 1, none⟩ = some (.int .i64 xt) := by rw [hwr]; exact c1
      have d0 : wr.cell? ⟨bb, bo + k * 2, none⟩ = some (.slice ya yl yc) := by rw [hwr]; exact d0
      have d1 : wr.cell? ⟨bb, bo + k * 2 + 1, none⟩ = some (.int .i64 xt) := by rw [hwr]; exact d1
      have i0 : (k : Int) < (l : Int) := by omega
      have i1 : (0 : Int) ≤ (k : Int) := by omega
      clear hca hcb ci di hwr
      go_wp2_with fail
      go_quiet ((go_at_call 31; exact Calls.quiet_of (hin _)))
      go_wp2_with fail
      exact ⟨⟨k + 1, _, by omega, by go_num, by rw [HWR.out]; exact World.drewN_drewN ..⟩, by simp [intOf]; omega⟩
    · clear hwr
      obtain rfl : k = l := by omega
      go_wp2_with fail
      go_ret
      exact ⟨rfl, n, HWR.out⟩
end Go.Proofs.YtjbagjmjbfiddaaGreatDoor
