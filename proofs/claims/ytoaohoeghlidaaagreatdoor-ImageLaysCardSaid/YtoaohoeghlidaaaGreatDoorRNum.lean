/-
  The program's reader: a number.
-/
import Derived.Test.YtoaohoeghlidaaaGreatDoorReader
import Derived.BigQuiet
import Derived.Deep.QuietTactic
namespace Go.Proofs.YtoaohoeghlidaaaGreatDoor
open Go.ChangeShapes Go.WideShapes Go.ChangeAt Go.RowKit

/-- the number that so many bytes from a place on are -/
def part (B : List UInt8) (at_ : Nat) : Nat → Nat
  | 0 => 0
  | k + 1 => part B at_ k * 256 + (B.getD (at_ + k) 0).toNat
theorem part_lt (B : List UInt8) (at_ : Nat) : ∀ k, part B at_ k < 256 ^ k
  | 0 => by simp [part]
  | k + 1 => by
    have h1 := part_lt B at_ k
    have h2 := (B.getD (at_ + k) 0).toNat_lt
    unfold part
    rw [Nat.pow_succ]
    omega
theorem part_four (B : List UInt8) (at_ : Nat) : un4 (B.drop at_) = if part B at_ 4 < 2147483648 then (part B at_ 4 : Int) else (part B at_ 4 : Int) - 4294967296 := by
  have hg : ∀ j, (B.drop at_).getD j 0 = B.getD (at_ + j) 0 := by intro j; simp [List.getD_eq_getElem?_getD, List.getElem?_drop]
  unfold un4 un
  rw [hg, hg, hg, hg]
  have hp : part B at_ 4 = ((((0 * 256 + (B.getD (at_ + 0) 0).toNat) * 256 + (B.getD (at_ + 1) 0).toNat) * 256 + (B.getD (at_ + 2) 0).toNat) * 256 + (B.getD (at_ + 3) 0).toNat) := rfl
  rw [hp]
  simp only
  split <;> split <;> omega

set_option maxHeartbeats 1600000 in
set_option maxRecDepth 100000 in
theorem rnumber_any (B : List UInt8) (b : Nat) (s : Rst) (W : World) (h : RAt W b B s) :
    Calls Tryz.prog 90 #[.pointer (some ⟨b, 0, none⟩)] W fun e W' => e = .returned (.int .i64 (rNum B s).1) ∧ RAt W' b B (rNum B s).2 ∧ KFr b W W' := by
  obtain ⟨a, n, cap, c0, c1, c2, f1, f2, hB, ha, hn⟩ := h.cells
  have HB := Lib.hid hB
  have hBl := hB.1
  have H := Lib.hid h
  have hB2 := hB.2.1
  clear h hB
  obtain ⟨p, hp⟩ : ∃ p, s.at_ = p := ⟨_, rfl⟩
  rw [hp] at c1 ha
  have w1 : IntKind.i64.wrap ((n : Int) - (p : Int)) = (n : Int) - (p : Int) := IntWalk.i64_in _ (by omega)
  by_cases hroom : n < p + 4
  · have d0 : decide ((n : Int) - (p : Int) < 4) = true := decide_eq_true (by omega)
    have hr : rNum B s = (0, ⟨s.at_, true⟩) := by unfold rNum; rw [if_pos (.inr (by rw [hBl, hp]; exact hroom))]
    rw [hr]
    clear hr hBl
    go_enter Tryz.func90, Tryz.ntmps90
    go_wp2_with fail
    go_quiet (fail)
    have H1 := Lib.hid (H.out.drewN nq)
    have K1 := Lib.hid ((KFr.refl b W).drewN nq)
    generalize W.drewN nq = W1 at *
    clear c0 c1 c2 f1 f2 w1 d0 HB
    obtain ⟨a', n', cap', c0, c1, c2, f1, f2, -⟩ := H1.out.cells
    have HS := Lib.hid H1.out.spoil
    go_wp2_with fail
    go_returns
    exact ⟨rfl, HS.out.1, K1.out.trans HS.out.2⟩
  · have d0 : decide ((n : Int) - (p : Int) < 4) = false := decide_eq_false (by omega)
    cases hw : s.wrong with
    | true =>
      have hr : rNum B s = (0, ⟨s.at_, true⟩) := by unfold rNum; rw [if_pos (.inl hw)]
      rw [hr]
      rw [hw] at c2
      have HSW := Lib.hid hw
      clear hr hBl hw
      go_enter Tryz.func90, Tryz.ntmps90
      go_wp2_with fail
      go_quiet (fail)
      have H1 := Lib.hid (H.out.drewN nq)
      have K1 := Lib.hid ((KFr.refl b W).drewN nq)
      generalize W.drewN nq = W1 at *
      clear c0 c1 c2 f1 f2 w1 d0 HB
      obtain ⟨a', n', cap', c0, c1, c2, f1, f2, -⟩ := H1.out.cells
      rw [HSW.out] at c2
      go_wp2_with fail
      go_returns
      exact ⟨rfl, by have := H1.out; rw [show s = ⟨s.at_, true⟩ by rw [← HSW.out]] at this; exact this, K1.out⟩
    | false =>
      obtain ⟨bb, o, rfl, hbb, hcell⟩ : ∃ bb o, a = some ⟨bb, o, none⟩ ∧ bb < b ∧ ∀ (j : Nat) (c : UInt8), B[j]? = some c → W.cell? ⟨bb, o + j, none⟩ = some (.int .u8 c.toNat) := by
        obtain ⟨_, _, _, h4⟩ := HB.out
        rcases h4 with ⟨_, h4⟩ | h4
        · omega
        · exact h4
      have hr : rNum B s = (un4 (B.drop p), ⟨p + 4, false⟩) := by
        unfold rNum
        rw [if_neg (by rw [hw, hBl, hp]; simp; omega), hp]
      obtain ⟨R, hR⟩ : ∃ R, un4 (B.drop p) = R := ⟨_, rfl⟩
      rw [hR] at hr
      have HR := Lib.hid hR
      clear hR
      rw [hr]
      rw [hw] at c2
      have HSW := Lib.hid hw
      have HC := Lib.hid hcell
      have w2 : IntKind.i64.wrap ((p : Int) + 4) = (p : Int) + 4 := IntWalk.i64_in _ (by omega)
      have i0 : (0 : Int) ≤ (p : Int) := by omega
      have i1 : ((p : Int) + 4) ≤ (cap : Int) := by omega
      have i2 : (p : Int) ≤ (p : Int) + 4 := by omega
      have HN := Lib.hid hroom
      clear hr hw hcell hbb
      go_enter Tryz.func90, Tryz.ntmps90
      go_wp2_with fail
      go_quiet (fail)
      have H1 := Lib.hid (H.out.drewN nq)
      have K1 := Lib.hid ((KFr.refl b W).drewN nq)
      have HC1 := Lib.hid (show ∀ (j : Nat) (c : UInt8), B[j]? = some c → (W.drewN nq).cell? ⟨bb, o + j, none⟩ = some (.int .u8 c.toNat) from HC.out)
      have D0 : (W.drewN nq).cell? ⟨b, 0, none⟩ = some (.slice (some ⟨bb, o, none⟩) n cap) := c0
      have D1 : (W.drewN nq).cell? ⟨b, 1, none⟩ = some (.int .i64 p) := c1
      have D2 : (W.drewN nq).cell? ⟨b, 2, none⟩ = some (.bool false) := c2
      generalize W.drewN nq = W1 at *
      clear c0 c1 c2 f1 f2 w1 d0 HC
      go_wp2_with fail
      go_quiet (fail)
      have H2 := Lib.hid (H1.out.drewN nq)
      have K2 := Lib.hid (K1.out.drewN nq)
      have HC2 := Lib.hid (show ∀ (j : Nat) (c : UInt8), B[j]? = some c → (W1.drewN nq).cell? ⟨bb, o + j, none⟩ = some (.int .u8 c.toNat) from HC1.out)
      have c1 : (W1.drewN nq).cell? ⟨b, 1, none⟩ = some (.int .i64 p) := D1
      generalize W1.drewN nq = W2 at *
      clear D0 D1 D2 HC1 H1 K1
      go_wp2_with fail
      rw [show p + 4 - p = 4 by omega]
      clear i0 i1 i2
      go_loopw [3, 39] (fun x i wr => ∃ k : Nat, k ≤ 4 ∧ i = .int .i64 k ∧ x = .int .u32 (part B p k : Nat) ∧ wr = W2) (fun _ i _ => 4 - (intOf i).toNat)
      case atStart => exact ⟨0, Nat.zero_le _, rfl, rfl, rfl⟩
      case round =>
        obtain ⟨k, hk, rfl, rfl, rfl⟩ := hrel
        by_cases hlt : k < 4
        · have hpk : p + k < B.length := by have := HN.out; omega
          have e0 := HC2.out (p + k) _ (List.getElem?_eq_getElem hpk)
          rw [← Nat.add_assoc] at e0
          have i0 : (k : Int) < 4 := by omega
          have i1 : (0 : Int) ≤ (k : Int) := by omega
          have hnext : part B p (k + 1) = part B p k * 256 + (B[p + k]'hpk).toNat := by show part B p k * 256 + (B.getD (p + k) 0).toNat = _; rw [List.getD_eq_getElem?_getD, List.getElem?_eq_getElem hpk]; rfl
          have hcb := (B[p + k]'hpk).toNat_lt
          generalize (B[p + k]'hpk).toNat = c at *
          have hx : part B p k < 16777216 := by
            have h1 := part_lt B p k
            have h2 : 256 ^ k ≤ 256 ^ 3 := Nat.pow_le_pow_right (by omega) (by omega)
            omega
          have HNX := Lib.hid hnext
          generalize part B p k = x at *
          have j0 := or_byte x c hx hcb
          have j1 : ((x : Int) * 256) % 4294967296 = (x : Int) * 256 := by omega
          have j2 : (c : Int) % 4294967296 = (c : Int) := by omega
          clear hnext
          go_wp2_with fail
          refine ⟨⟨k + 1, by omega, by go_num, ?_, trivial⟩, by simp [intOf]; omega⟩
          rw [HNX.out]
          exact congrArg (Value.int IntKind.u32) (by omega)
        · obtain rfl : k = 4 := by omega
          have hx : part B p 4 < 4294967296 := part_lt B p 4
          obtain ⟨a', n', cap', -, -, c2, f1, f2, -⟩ := H2.out.cells
          have hg := H2.out.go (p + 4) (by have := HN.out; omega)
          rw [show ((p + 4 : Nat) : Int) = (p : Int) + 4 by omega, HSW.out] at hg
          have HG := Lib.hid hg
          clear hg
          have HX := Lib.hid hx
          have hfin : RowKit.wrap64 (RowKit.wrap32 (part B p 4 : Nat)) = R := by
            rw [← HR.out, part_four]
            unfold RowKit.wrap64 RowKit.wrap32
            split <;> omega
          have HFI := Lib.hid hfin
          clear hfin hx
          go_wp2_with fail
          go_returns
          exact ⟨by rw [HFI.out]; rfl, HG.out.1, K2.out.trans HG.out.2⟩
end Go.Proofs.YtoaohoeghlidaaaGreatDoor
