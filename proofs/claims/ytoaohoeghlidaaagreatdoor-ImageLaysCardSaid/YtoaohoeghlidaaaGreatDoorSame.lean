/-
  Small functions of the law: Low, bytes that are the same, the sample's image held against itself.
-/
import Derived.Test.YtoaohoeghlidaaaGreatDoorEqI
import Derived.Test.YtoaohoeghlidaaaGreatDoorReader
namespace Go.Proofs.YtoaohoeghlidaaaGreatDoor
open Go.ChangeShapes Go.WideShapes Go.ChangeAt Go.RowKit

def low (x n : Int) : Int := (x % 18446744073709551616) % n
theorem low_bd (x n : Int) (h : 1 ≤ n) : 0 ≤ low x n ∧ low x n < n := ⟨Int.emod_nonneg _ (by omega), Int.emod_lt_of_pos _ (by omega)⟩
theorem wrapu64 (n : Int) : IntKind.u64.wrap n = n % 18446744073709551616 := by simp [IntKind.wrap, IntKind.signed, IntKind.bits]
theorem ret_low {x n : Int} (h0 : 0 ≤ IntKind.u64.wrap x) (h1 : 1 ≤ n) (h2 : n ≤ 10000000000000) : Ending.returned (.int .i64 (wrap64 ((IntKind.u64.wrap x).tmod n))) = .returned (.int .i64 (low x n)) := by
  rw [Int.tmod_eq_emod_of_nonneg h0, wrapu64]
  have := low_bd x n h1
  unfold low at *
  rw [IntWalk.wrap64_in _ (by omega)]
set_option maxRecDepth 100000 in
theorem low_any (x n : Int) (h1 : 1 ≤ n) (h2 : n ≤ 10000000000000) (w : World) : Calls Tryz.prog 19 #[.int .i64 x, .int .i64 n] w fun e w' => e = .returned (.int .i64 (low x n)) ∧ w' = w := by
  have e1 : IntKind.u64.wrap n = n := by rw [wrapu64]; omega
  have e0 : ¬ n = 0 := by omega
  go_enter Tryz.func19, Tryz.ntmps19
  go_wp2
  go_ret
  exact ⟨ret_low (by rw [wrapu64]; omega) h1 h2, rfl⟩

set_option maxHeartbeats 1600000 in
set_option maxRecDepth 100000 in
theorem eq_bytes (lim lim' : Nat) (W : World) (a a' : Option Addr) (l l' c c' : Nat) (B : List UInt8) (h1 : Bytes W lim a l c B) (h2 : Bytes W lim' a' l' c' B) :
    Calls Tryz.prog 11 #[.slice a l c, .slice a' l' c'] W fun e W' => e = .returned (.bool true) ∧ ∃ n, W' = W.drewN n := by
  obtain rfl : l = l' := h1.1.symm.trans h2.1
  have H1 := Lib.hid h1
  have H2 := Lib.hid h2
  have hml : l ≤ 9223372036854775807 := by have := h1.2.1; have := h1.2.2.1; unfold maxLen at this; omega
  have hll : ((l : Int) != (l : Int)) = false := by simp
  have hbl := h1.1
  clear h1 h2
  go_enter Tryz.func11, Tryz.ntmps11
  go_wp2_with fail
  go_loopw [5] (fun i wr => ∃ k m : Nat, k ≤ l ∧ i = .int .i64 k ∧ wr = W.drewN m) (fun i _ => l - (intOf i).toNat)
  case atStart => exact ⟨0, 0, Nat.zero_le _, rfl, rfl⟩
  case round =>
    obtain ⟨k, m, hk, rfl, hwr⟩ := hrel
    have HW := Lib.hid hwr
    by_cases hlt : k < l
    · obtain ⟨_, _, _, h4⟩ := H1.out.keep (W' := W.drewN m) (fun _ _ => rfl)
      obtain ⟨_, g2, _, g4⟩ := H2.out.keep (W' := W.drewN m) (fun _ _ => rfl)
      have hcl := H1.out.2.1
      rcases h4 with ⟨_, h4⟩ | ⟨ba, oa, rfl, _, hca⟩
      · omega
      rcases g4 with ⟨_, g4⟩ | ⟨bb, ob, rfl, _, hcb⟩
      · omega
      rw [← hwr] at hca hcb
      have i0 : (k : Int) < (l : Int) := by omega
      have i1 : (0 : Int) ≤ (k : Int) := by omega
      have e0 := hca k _ (List.getElem?_eq_getElem (by omega))
      have d0 := hcb k _ (List.getElem?_eq_getElem (by omega))
      generalize (B[k]'(by omega)).toNat = cc at *
      clear hca hcb hwr g2 hcl
      go_wp2_with fail
      go_quiet (fail)
      go_wp2_with fail
      refine ⟨⟨k + 1, m + nq, ?_, ?_, ?_⟩, ?_⟩
      · omega
      · go_num
      · rw [HW.out, World.drewN_drewN]
      · simp [intOf]; omega
    · obtain rfl : l = k := by omega
      clear hwr
      go_wp2_with fail
      go_returns
      exact ⟨rfl, m, HW.out⟩

set_option maxRecDepth 100000 in
theorem nils33 (a a' : Option Addr) (c c' : Nat) (W : World) : Calls Tryz.prog 33 #[.slice a 0 c, .slice a' 0 c', .func (.func 34) #[] #[]] W fun e W' => e = .returned (.bool true) ∧ W' = W := by
  go_enter Tryz.func33, Tryz.ntmps33
  go_wp2_with fail
  go_loopw [17] (fun i wr => i = .int .i64 0 ∧ wr = W) (fun _ _ => 0)
  case atStart => exact ⟨rfl, rfl⟩
  case round =>
    obtain ⟨rfl, rfl⟩ := hrel
    go_wp2_with fail
    go_returns
    exact ⟨rfl, rfl⟩

set_option maxRecDepth 100000 in
theorem nils35 (a a' : Option Addr) (c c' : Nat) (W : World) : Calls Tryz.prog 35 #[.slice a 0 c, .slice a' 0 c', .func (.func 36) #[] #[]] W fun e W' => e = .returned (.bool true) ∧ W' = W := by
  go_enter Tryz.func35, Tryz.ntmps35
  go_wp2_with fail
  go_loopw [17] (fun i wr => i = .int .i64 0 ∧ wr = W) (fun _ _ => 0)
  case atStart => exact ⟨rfl, rfl⟩
  case round =>
    obtain ⟨rfl, rfl⟩ := hrel
    go_wp2_with fail
    go_returns
    exact ⟨rfl, rfl⟩

set_option maxRecDepth 100000 in
theorem nils37 (a a' : Option Addr) (c c' : Nat) (W : World) : Calls Tryz.prog 37 #[.slice a 0 c, .slice a' 0 c', .func (.func 38) #[] #[]] W fun e W' => e = .returned (.bool true) ∧ W' = W := by
  go_enter Tryz.func37, Tryz.ntmps37
  go_wp2_with fail
  go_loopw [17] (fun i wr => i = .int .i64 0 ∧ wr = W) (fun _ _ => 0)
  case atStart => exact ⟨rfl, rfl⟩
  case round =>
    obtain ⟨rfl, rfl⟩ := hrel
    go_wp2_with fail
    go_returns
    exact ⟨rfl, rfl⟩

set_option maxRecDepth 100000 in
theorem nils39 (a a' : Option Addr) (c c' : Nat) (W : World) : Calls Tryz.prog 39 #[.slice a 0 c, .slice a' 0 c'] W fun e W' => e = .returned (.bool true) ∧ W' = W := by
  go_enter Tryz.func39, Tryz.ntmps39
  go_wp2_with fail
  go_loopw [13] (fun i wr => i = .int .i64 0 ∧ wr = W) (fun _ _ => 0)
  case atStart => exact ⟨rfl, rfl⟩
  case round =>
    obtain ⟨rfl, rfl⟩ := hrel
    go_wp2_with fail
    go_returns
    exact ⟨rfl, rfl⟩

set_option maxRecDepth 100000 in
theorem nils40 (a a' : Option Addr) (c c' : Nat) (W : World) : Calls Tryz.prog 40 #[.slice a 0 c, .slice a' 0 c'] W fun e W' => e = .returned (.bool true) ∧ W' = W := by
  go_enter Tryz.func40, Tryz.ntmps40
  go_wp2_with fail
  go_loopw [13] (fun i wr => i = .int .i64 0 ∧ wr = W) (fun _ _ => 0)
  case atStart => exact ⟨rfl, rfl⟩
  case round =>
    obtain ⟨rfl, rfl⟩ := hrel
    go_wp2_with fail
    go_returns
    exact ⟨rfl, rfl⟩

set_option maxRecDepth 100000 in
theorem nils41 (a a' : Option Addr) (c c' : Nat) (W : World) : Calls Tryz.prog 41 #[.slice a 0 c, .slice a' 0 c'] W fun e W' => e = .returned (.bool true) ∧ W' = W := by
  go_enter Tryz.func41, Tryz.ntmps41
  go_wp2_with fail
  go_loopw [13] (fun i wr => i = .int .i64 0 ∧ wr = W) (fun _ _ => 0)
  case atStart => exact ⟨rfl, rfl⟩
  case round =>
    obtain ⟨rfl, rfl⟩ := hrel
    go_wp2_with fail
    go_returns
    exact ⟨rfl, rfl⟩

set_option maxHeartbeats 3200000 in
set_option maxRecDepth 100000 in
theorem same_seven (a0 a1 a2 a3 a5 a6 a7 a8 a9 : Option Addr) (c0 c1 c2 c3 c5 c6 c7 c8 c9 : Nat) (W : World) :
    Calls Tryz.prog 13 #[.agg #[.slice a0 0 c0, .slice a1 0 c1, .slice a2 0 c2, .slice a3 0 c3, .string ⟨#[]⟩, .slice a5 0 c5, .slice a6 0 c6, .slice a7 0 c7, .slice a8 0 c8, .slice a9 0 c9, .int .i64 7, .int .i64 0], .agg #[.slice none 0 0, .slice none 0 0, .slice none 0 0, .slice none 0 0, .string ⟨#[]⟩, .slice none 0 0, .slice none 0 0, .slice none 0 0, .slice none 0 0, .slice none 0 0, .int .i64 7, .int .i64 0]] W fun e W' => e = .returned (.bool true) ∧ Below W.heap.size W W' := by
  have HB := Lib.hid (((Below.refl W.heap.size W).alloc (Nat.le_refl _) (.cells #[.slice a0 0 c0, .slice a1 0 c1, .slice a2 0 c2, .slice a3 0 c3, .string ⟨#[]⟩, .slice a5 0 c5, .slice a6 0 c6, .slice a7 0 c7, .slice a8 0 c8, .slice a9 0 c9, .int .i64 7, .int .i64 0] 29)).alloc (by simp) (.cells #[.slice none 0 0, .slice none 0 0, .slice none 0 0, .slice none 0 0, .string ⟨#[]⟩, .slice none 0 0, .slice none 0 0, .slice none 0 0, .slice none 0 0, .slice none 0 0, .int .i64 7, .int .i64 0] 29))
  go_enter Tryz.func13, Tryz.ntmps13
  go_wp2_with (first | (go_at_call 33; refine (nils33 _ _ _ _ _).mono ?_; rintro e w' ⟨rfl, rfl⟩) | (go_at_call 35; refine (nils35 _ _ _ _ _).mono ?_; rintro e w' ⟨rfl, rfl⟩) | (go_at_call 37; refine (nils37 _ _ _ _ _).mono ?_; rintro e w' ⟨rfl, rfl⟩) | (go_at_call 39; refine (nils39 _ _ _ _ _).mono ?_; rintro e w' ⟨rfl, rfl⟩) | (go_at_call 40; refine (nils40 _ _ _ _ _).mono ?_; rintro e w' ⟨rfl, rfl⟩) | (go_at_call 41; refine (nils41 _ _ _ _ _).mono ?_; rintro e w' ⟨rfl, rfl⟩))
  go_returns
  exact ⟨rfl, HB.out⟩
end Go.Proofs.YtoaohoeghlidaaaGreatDoor
