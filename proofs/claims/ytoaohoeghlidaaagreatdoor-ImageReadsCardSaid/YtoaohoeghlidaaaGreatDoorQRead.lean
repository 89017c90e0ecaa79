/-
  The document's reader: what it is in memory; a number, how many follow, a text.
-/
import Derived.Test.YtoaohoeghlidaaaGreatDoorVPure
import Derived.Test.YtoaohoeghlidaaaGreatDoorRMany
namespace Go.Proofs.YtoaohoeghlidaaaGreatDoor
open Go.ChangeShapes Go.WideShapes Go.ChangeAt Go.RowKit

/-- a reader of the document: its bytes lie below it -/
def QAt (W : World) (b : Nat) (B : List UInt8) (s : Rst) : Prop :=
  ∃ a n cap, W.heap[b]? = some (.cells #[.slice a n cap, .int .i64 (s.at_ : Nat), .bool s.wrong] 99 (0, 0)) ∧ Bytes W b a n cap B ∧ s.at_ ≤ B.length ∧ B.length ≤ 10000000000000
theorem QAt.lt {W : World} {b : Nat} {B : List UInt8} {s : Rst} (h : QAt W b B s) : b < W.heap.size := by
  obtain ⟨_, _, _, h, _⟩ := h
  exact heap_lt h
/-- a document's reader's flag is set -/
theorem QAt.spoil {W : World} {b : Nat} {B : List UInt8} {s : Rst} (h : QAt W b B s) : QAt (W.setCell ⟨b, 2, none⟩ (.bool true)) b B ⟨s.at_, true⟩ ∧ KFr b W (W.setCell ⟨b, 2, none⟩ (.bool true)) := by
  obtain ⟨a, n, cap, h1, h2, h3, h4⟩ := h
  exact ⟨⟨a, n, cap, cells3_2 _ h1, h2.keep (fun k hk => setCell_rest _ _ _ _ (by simp; omega)), h3, h4⟩, (KFr.refl b W).set (p := ⟨b, _, none⟩) (.inl rfl) _⟩
/-- a document's reader goes on -/
theorem QAt.go {W : World} {b : Nat} {B : List UInt8} {s : Rst} (h : QAt W b B s) (m : Nat) (hm : m ≤ B.length) : QAt (W.setCell ⟨b, 1, none⟩ (.int .i64 m)) b B ⟨m, s.wrong⟩ ∧ KFr b W (W.setCell ⟨b, 1, none⟩ (.int .i64 m)) := by
  obtain ⟨a, n, cap, h1, h2, h3, h4⟩ := h
  exact ⟨⟨a, n, cap, cells3_1 _ h1, h2.keep (fun k hk => setCell_rest _ _ _ _ (by simp; omega)), hm, h4⟩, (KFr.refl b W).set (p := ⟨b, _, none⟩) (.inl rfl) _⟩
theorem QAt.drewN {W : World} {b : Nat} {B : List UInt8} {s : Rst} (h : QAt W b B s) (n : Nat) : QAt (W.drewN n) b B s := by
  obtain ⟨a, m, cap, h1, h2, h3, h4⟩ := h
  exact ⟨a, m, cap, h1, h2.keep (fun _ _ => rfl), h3, h4⟩
theorem QAt.kept {W W' : World} {b : Nat} {B : List UInt8} {s : Rst} (h : QAt W b B s) (hk : ∀ k, k ≤ b → W'.heap[k]? = W.heap[k]?) : QAt W' b B s := by
  obtain ⟨a, n, cap, h1, h2, h3, h4⟩ := h
  exact ⟨a, n, cap, (hk b (Nat.le_refl _)).trans h1, h2.keep (fun k hk' => hk k (by omega)), h3, h4⟩
theorem QAt.cells {W : World} {b : Nat} {B : List UInt8} {s : Rst} (h : QAt W b B s) : ∃ a n cap, W.cell? ⟨b, 0, none⟩ = some (.slice a n cap) ∧ W.cell? ⟨b, 1, none⟩ = some (.int .i64 (s.at_ : Nat)) ∧ W.cell? ⟨b, 2, none⟩ = some (.bool s.wrong) ∧ W.frozen? ⟨b, 1, none⟩ = false ∧ W.frozen? ⟨b, 2, none⟩ = false ∧ Bytes W b a n cap B ∧ s.at_ ≤ n ∧ n ≤ 10000000000000 := by
  obtain ⟨a, n, cap, h1, h2, h3, h4⟩ := h
  refine ⟨a, n, cap, by rw [Lib.cell_of_heap h1]; rfl, by rw [Lib.cell_of_heap h1]; rfl, by rw [Lib.cell_of_heap h1]; rfl, Lib.frozen_of_heap h1 1, Lib.frozen_of_heap h1 2, h2, by rw [← h2.1]; exact h3, by rw [← h2.1]; exact h4⟩

theorem QAt.grown {W1 W2 : World} {b lo : Nat} {B : List UInt8} {s : Rst} {size : Nat} {e : TypeId} {v : Value} {n : Nat} {xs : List Value} (h : QAt W1 b B s) (hb : b < lo) (hg : W1.grownBy W2 v.ownBlock) (ho : W1.ownsRow lo e size v n xs) : QAt W2 b B s :=
  h.kept (fun k hk => hg.block k (Nat.lt_of_le_of_lt hk h.lt) (fun e' => by have := (own_type ho e'.symm).1; omega))
theorem QAt.alloc {W : World} {b : Nat} {B : List UInt8} {s : Rst} (h : QAt W b B s) (o : Obj) : QAt (W.alloc o) b B s := h.kept (fun k hk => Below.heap_alloc _ _ k (Nat.lt_of_le_of_lt hk h.lt))

set_option maxHeartbeats 1600000 in
set_option maxRecDepth 100000 in
theorem qnumber_any (B : List UInt8) (b : Nat) (s : Rst) (W : World) (h : QAt W b B s) :
    Calls Tryz.prog 53 #[.pointer (some ⟨b, 0, none⟩)] W fun e W' => e = .returned (.int .i64 (rNum B s).1) ∧ QAt W' b B (rNum B s).2 ∧ KFr b W W' := by
  obtain ⟨a, n, cap, c0, c1, c2, f1, f2, hB, ha, hn⟩ := h.cells
  have HB := Lib.hid hB
  have hBl := hB.1
  have H := Lib.hid h
  have hB2 := hB.2.1
  clear h hB
  obtain ⟨p, hp⟩ : ∃ p, s.at_ = p := ⟨_, rfl⟩
  rw [hp] at c1 ha
  have w1 : IntKind.i64.wrap ((n : Int) - (p : Int)) = (n : Int) - (p : Int) := IntWalk.i64_in _ (by omega)
  cases hw : s.wrong with
  | true =>
    have hr : rNum B s = (0, ⟨s.at_, true⟩) := by unfold rNum; rw [if_pos (.inl hw)]
    rw [hr]
    rw [hw] at c2
    clear hr hBl hw
    go_enter Tryz.func53, Tryz.ntmps53
    go_wp2_with fail
    go_quiet (fail)
    have H1 := Lib.hid (H.out.drewN nq)
    have K1 := Lib.hid ((KFr.refl b W).drewN nq)
    generalize W.drewN nq = W1 at *
    clear c0 c1 c2 f1 f2 w1 HB
    obtain ⟨a', n', cap', c0, c1, c2, f1, f2, -⟩ := H1.out.cells
    have HS := Lib.hid H1.out.spoil
    go_wp2_with fail
    go_returns
    exact ⟨rfl, HS.out.1, K1.out.trans HS.out.2⟩
  | false =>
  by_cases hroom : n < p + 4
  · have d0 : decide ((n : Int) - (p : Int) < 4) = true := decide_eq_true (by omega)
    have hr : rNum B s = (0, ⟨s.at_, true⟩) := by unfold rNum; rw [if_pos (.inr (by rw [hBl, hp]; exact hroom))]
    rw [hr]
    rw [hw] at c2
    clear hr hBl hw
    go_enter Tryz.func53, Tryz.ntmps53
    go_wp2_with fail
    go_quiet (fail)
    have H1 := Lib.hid (H.out.drewN nq)
    have K1 := Lib.hid ((KFr.refl b W).drewN nq)
    generalize W.drewN nq = W1 at *
    clear c0 c1 c2 f1 f2 w1 d0 HB
    obtain ⟨a', n', cap', c0, c1, c2, f1, f2, -⟩ := H1.out.cells
    have HS := Lib.hid H1.out.spoil
    go_wp2_with fail
    go_returns
    exact ⟨rfl, HS.out.1, K1.out.trans HS.out.2⟩
  · have d0 : decide ((n : Int) - (p : Int) < 4) = false := decide_eq_false (by omega)
    have hr : rNum B s = (un4 (B.drop p), ⟨p + 4, false⟩) := by
      unfold rNum
      rw [if_neg (by rw [hw, hBl, hp]; simp; omega), hp]
    obtain ⟨R, hR⟩ : ∃ R, un4 (B.drop p) = R := ⟨_, rfl⟩
    rw [hR] at hr
    have HR := Lib.hid hR
    clear hR
    rw [hr]
    rw [hw] at c2
    have HSW := Lib.hid hw
    have HP := Lib.hid hp
    have HBL := Lib.hid hBl
    clear hr hw hp hBl
    go_enter Tryz.func53, Tryz.ntmps53
    go_wp2_with fail
    go_quiet (fail)
    have H1 := Lib.hid (H.out.drewN nq)
    have K1 := Lib.hid ((KFr.refl b W).drewN nq)
    generalize W.drewN nq = W1 at *
    clear c0 c1 c2 f1 f2 w1 d0 HB
    go_wp2_with fail
    go_loopw [3, 4] (fun x i wr => ∃ k : Nat, k ≤ 4 ∧ i = .int .i64 k ∧ x = .int .u32 (part B p k : Nat) ∧ QAt wr b B s ∧ KFr b W wr) (fun _ i _ => 4 - (intOf i).toNat)
    case atStart => exact ⟨0, Nat.zero_le _, rfl, rfl, H1.out, K1.out⟩
    case round =>
      obtain ⟨k, hk, rfl, rfl, hq, hf⟩ := hrel
      obtain ⟨a9, n9, cap9, c0, c1, c2, f1, f2, hB9, ha9, hn9⟩ := hq.cells
      have hn9' : n9 = n := hB9.1.symm.trans HBL.out
      subst hn9'
      have HQ := Lib.hid hq
      have HF := Lib.hid hf
      rw [HP.out] at c1 ha9
      rw [HSW.out] at c2
      clear hq hf H1 K1
      by_cases hlt : k < 4
      · obtain ⟨bb, o, rfl, hbb, hcell⟩ : ∃ bb o, a9 = some ⟨bb, o, none⟩ ∧ bb < b ∧ ∀ (j : Nat) (c : UInt8), B[j]? = some c → wr.cell? ⟨bb, o + j, none⟩ = some (.int .u8 c.toNat) := by
          obtain ⟨_, _, _, h4⟩ := hB9
          rcases h4 with ⟨_, h4⟩ | h4
          · omega
          · exact h4
        have hpk : p + k < B.length := by rw [HBL.out]; omega
        have e0 := hcell (p + k) _ (List.getElem?_eq_getElem hpk)
        have i0 : (k : Int) < 4 := by omega
        have i1 : (0 : Int) ≤ (p : Int) + (k : Int) := by omega
        have i2 : (p : Int) + (k : Int) < (n9 : Int) := by omega
        have i3 : ((p : Int) + (k : Int)).toNat = p + k := by omega
        have w2 : IntKind.i64.wrap ((p : Int) + (k : Int)) = (p : Int) + (k : Int) := IntWalk.i64_in _ (by omega)
        have hnext : part B p (k + 1) = part B p k * 256 + (B[p + k]'hpk).toNat := by show part B p k * 256 + (B.getD (p + k) 0).toNat = _; rw [List.getD_eq_getElem?_getD, List.getElem?_eq_getElem hpk]; rfl
        have hcb := (B[p + k]'hpk).toNat_lt
        generalize (B[p + k]'hpk).toNat = c at *
        have hx : part B p k < 16777216 := by
          have h1 := part_lt B p k
          have h2 : 256 ^ k ≤ 256 ^ 3 := Nat.pow_le_pow_right (by omega) (by omega)
          omega
        have HNX := Lib.hid hnext
        generalize part B p k = x at *
        have j0 := or_byte x c hx hcb
        have j1 : ((x : Int) * 256) % 4294967296 = (x : Int) * 256 := by omega
        have j2 : (c : Int) % 4294967296 = (c : Int) := by omega
        clear hnext hcell hB9
        go_wp2_with fail
        go_quiet (fail)
        have H2 := Lib.hid (HQ.out.drewN nq)
        have K2 := Lib.hid (HF.out.drewN nq)
        generalize wr.drewN nq = W2 at *
        clear c0 c1 c2 f1 f2 w2 e0
        go_wp2_with fail
        refine ⟨⟨k + 1, by omega, by go_num, ?_, H2.out, K2.out⟩, by simp [intOf]; omega⟩
        rw [HNX.out]
        exact congrArg (Value.int IntKind.u32) (by omega)
      · obtain rfl : k = 4 := by omega
        have hx : part B p 4 < 4294967296 := part_lt B p 4
        have hg := HQ.out.go (p + 4) (by rw [HBL.out]; omega)
        rw [show ((p + 4 : Nat) : Int) = (p : Int) + 4 by omega, HSW.out] at hg
        have HG := Lib.hid hg
        clear hg hB9
        have HX := Lib.hid hx
        have w2 : IntKind.i64.wrap ((p : Int) + 4) = (p : Int) + 4 := IntWalk.i64_in _ (by omega)
        have hfin : RowKit.wrap64 (RowKit.wrap32 (part B p 4 : Nat)) = R := by
          rw [← HR.out, part_four]
          unfold RowKit.wrap64 RowKit.wrap32
          split <;> omega
        have HFI := Lib.hid hfin
        clear hfin hx
        go_wp2_with fail
        go_returns
        exact ⟨by rw [HFI.out]; rfl, HG.out.1, HF.out.trans HG.out.2⟩

set_option maxHeartbeats 1600000 in
set_option maxRecDepth 100000 in
theorem qmany_any (B : List UInt8) (b : Nat) (s : Rst) (W : World) (h : QAt W b B s) :
    Calls Tryz.prog 47 #[.pointer (some ⟨b, 0, none⟩)] W fun e W' => e = .returned (.int .i64 (rCount B 1 s).1) ∧ QAt W' b B (rCount B 1 s).2 ∧ KFr b W W' := by
  have hc := qnumber_any B b s W h
  obtain ⟨⟨Rv, Rt⟩, hres⟩ : ∃ r, rCount B 1 s = r := ⟨_, rfl⟩
  rw [hres]
  unfold rCount at hres
  simp only [Nat.div_one] at hres
  obtain ⟨⟨x, t⟩, hx⟩ : ∃ r, rNum B s = r := ⟨_, rfl⟩
  rw [hx] at hc hres
  simp only at hc hres
  have HRES := Lib.hid hres
  clear h hx hres
  go_enter Tryz.func47, Tryz.ntmps47
  go_wp2_with (go_at_call 53; refine hc.mono ?_)
  rintro e W1 ⟨rfl, hr, hf⟩
  obtain ⟨a, n, cap, c0, c1, c2, f1, f2, hB, ha, hn⟩ := hr.cells
  have hBl := hB.1
  have HR := Lib.hid hr
  have HF := Lib.hid hf
  obtain ⟨p, hp⟩ : ∃ p, t.at_ = p := ⟨_, rfl⟩
  rw [hp] at c1 ha
  have w1 : IntKind.i64.wrap ((n : Int) - (p : Int)) = (n : Int) - (p : Int) := IntWalk.i64_in _ (by omega)
  rw [hBl, hp] at HRES
  have HP := Lib.hid hp
  clear hr hf hB hc hp hBl
  by_cases h1 : x < 0
  · have d1 : decide (x < 0) = true := decide_eq_true h1
    have HE := Lib.hid (show Rv = 0 ∧ Rt = ⟨p, true⟩ by have := HRES.out; rw [if_pos (.inl h1)] at this; simp at this; exact ⟨this.1.symm, this.2.symm⟩)
    go_wp2_with fail
    go_quiet (fail)
    have H1 := Lib.hid (HR.out.drewN nq)
    have K1 := Lib.hid (HF.out.drewN nq)
    generalize W1.drewN nq = W2 at *
    clear c0 c1 c2 f1 f2 w1 d1 HR HF
    obtain ⟨a', n', cap', c0, c1, c2, f1, f2, -⟩ := H1.out.cells
    have HS := Lib.hid H1.out.spoil
    go_wp2_with fail
    go_returns
    exact ⟨by rw [HE.out.1]; rfl, by rw [HE.out.2, ← HP.out]; exact HS.out.1, K1.out.trans HS.out.2⟩
  · have d1 : decide (x < 0) = false := decide_eq_false h1
    by_cases h2 : 10000 < x
    · have d2 : decide (10000 < x) = true := decide_eq_true h2
      have HE := Lib.hid (show Rv = 0 ∧ Rt = ⟨p, true⟩ by have := HRES.out; rw [if_pos (.inr (.inl h2))] at this; simp at this; exact ⟨this.1.symm, this.2.symm⟩)
      go_wp2_with fail
      go_quiet (fail)
      have H1 := Lib.hid (HR.out.drewN nq)
      have K1 := Lib.hid (HF.out.drewN nq)
      generalize W1.drewN nq = W2 at *
      clear c0 c1 c2 f1 f2 w1 d1 d2 HR HF
      obtain ⟨a', n', cap', c0, c1, c2, f1, f2, -⟩ := H1.out.cells
      have HS := Lib.hid H1.out.spoil
      go_wp2_with fail
      go_returns
      exact ⟨by rw [HE.out.1]; rfl, by rw [HE.out.2, ← HP.out]; exact HS.out.1, K1.out.trans HS.out.2⟩
    · have d2 : decide (10000 < x) = false := decide_eq_false h2
      by_cases h3 : (n : Int) - (p : Int) < x
      · have d3 : decide ((n : Int) - (p : Int) < x) = true := decide_eq_true h3
        have HE := Lib.hid (show Rv = 0 ∧ Rt = ⟨p, true⟩ by have := HRES.out; rw [if_pos (.inr (.inr (by omega)))] at this; simp at this; exact ⟨this.1.symm, this.2.symm⟩)
        go_wp2_with fail
        go_quiet (fail)
        have H1 := Lib.hid (HR.out.drewN nq)
        have K1 := Lib.hid (HF.out.drewN nq)
        generalize W1.drewN nq = W2 at *
        clear c0 c1 c2 f1 f2 w1 d1 d2 d3 HR HF
        obtain ⟨a', n', cap', c0, c1, c2, f1, f2, -⟩ := H1.out.cells
        have HS := Lib.hid H1.out.spoil
        go_wp2_with fail
        go_returns
        exact ⟨by rw [HE.out.1]; rfl, by rw [HE.out.2, ← HP.out]; exact HS.out.1, K1.out.trans HS.out.2⟩
      · have d3 : decide ((n : Int) - (p : Int) < x) = false := decide_eq_false h3
        have HE := Lib.hid (show ((Rv : Nat) : Int) = x ∧ Rt = t by have := HRES.out; rw [if_neg (by omega)] at this; simp at this; exact ⟨by omega, this.2.symm⟩)
        go_wp2_with fail
        go_quiet (fail)
        have H1 := Lib.hid (HR.out.drewN nq)
        have K1 := Lib.hid (HF.out.drewN nq)
        generalize W1.drewN nq = W2 at *
        clear c0 c1 c2 f1 f2 w1 d1 d2 d3 HR HF
        go_wp2_with fail
        go_returns
        exact ⟨by rw [HE.out.1]; rfl, by rw [HE.out.2]; exact H1.out, K1.out⟩

set_option maxHeartbeats 1600000 in
set_option maxRecDepth 100000 in
theorem qtext_any (B : List UInt8) (b : Nat) (s : Rst) (W : World) (h : QAt W b B s) :
    Calls Tryz.prog 46 #[.pointer (some ⟨b, 0, none⟩)] W fun e W' => e = .returned (.string (rText B s).1) ∧ QAt W' b B (rText B s).2 ∧ KFr b W W' := by
  have hc := qmany_any B b s W h
  have hin := rCount_fit B 1 s (by obtain ⟨_, _, _, _, _, h3, _⟩ := h; exact h3)
  have hz := rCount_zero B 1 s
  obtain ⟨⟨Rv, Rt⟩, hres⟩ : ∃ r, rText B s = r := ⟨_, rfl⟩
  rw [hres]
  unfold rText at hres
  simp only at hres
  obtain ⟨⟨x, t⟩, hx⟩ : ∃ r, rCount B 1 s = r := ⟨_, rfl⟩
  rw [hx] at hc hres hin hz
  simp only at hc hres hin hz
  have HZ0 := Lib.hid hz
  have hv : Rv = ⟨((B.drop t.at_).take x).toArray⟩ := by cases hres; rfl
  have ht : Rt = ⟨t.at_ + x, t.wrong⟩ := by cases hres; rfl
  have HV := Lib.hid hv
  have HT := Lib.hid ht
  clear h hx hres hv ht hz
  go_enter Tryz.func46, Tryz.ntmps46
  go_wp2_with (go_at_call 47; refine hc.mono ?_)
  rintro e W1 ⟨rfl, hr, hf⟩
  obtain ⟨a, n, cap, c0, c1, c2, f1, f2, hB, ha, hn⟩ := hr.cells
  cases hw : t.wrong with
  | true =>
    rw [hw] at c2
    have hz0 := HZ0.out hw
    have HV0 := Lib.hid (show Rv = ⟨#[]⟩ by rw [HV.out, hz0]; simp)
    have HT0 := Lib.hid (show Rt = t by rw [HT.out, hz0]; rfl)
    have HR := Lib.hid hr
    have HF := Lib.hid hf
    clear hr hf hc hB hw
    go_wp2_with fail
    go_returns
    exact ⟨by rw [HV0.out]; rfl, by rw [HT0.out]; exact HR.out, HF.out⟩
  | false =>
  rw [hw] at c2
  obtain ⟨p, hp⟩ : ∃ p, t.at_ = p := ⟨_, rfl⟩
  rw [hp] at c1 ha hin
  have hBl := hB.1
  have hg := hr.go (p + x) (by omega)
  have HB := Lib.hid hB
  rw [show ((p + x : Nat) : Int) = (p : Int) + x by omega] at hg
  have w1 : IntKind.i64.wrap ((p : Int) + (x : Int)) = (p : Int) + x := IntWalk.i64_in _ (by omega)
  have HF := Lib.hid hf
  have HG := Lib.hid hg
  have HP := Lib.hid hp
  have HBL := Lib.hid hBl
  clear hr hf hc hg hB hp hBl
  have w2 : IntKind.i64.wrap ((p : Int) + (x : Int) - (x : Int)) = (p : Int) := (IntWalk.i64_in _ (by omega)).trans (by omega)
  obtain ⟨hb1, hb2, hb3, hb4⟩ := HB.out
  have hW2 : (W1.setCell ⟨b, 1, none⟩ (.int .i64 ((p : Int) + x))).cell? ⟨b, 0, none⟩ = some (.slice a n cap) ∧ (W1.setCell ⟨b, 1, none⟩ (.int .i64 ((p : Int) + x))).cell? ⟨b, 1, none⟩ = some (.int .i64 ((p : Int) + x)) := by
    obtain ⟨a', n', cap', g1, -⟩ := HG.out.1
    have hh := World.cell?_setCell_other W1 ⟨b, 1, none⟩ ⟨b, 0, none⟩ (.int .i64 ((p : Int) + x)) (by simp)
    refine ⟨hh.trans c0, ?_⟩
    rw [Lib.cell_of_heap g1]
    show some (Value.int _ _) = _
    simp only [Option.some.injEq, Value.int.injEq, true_and]
    omega
  obtain ⟨e0, e1⟩ := hW2
  rcases hb4 with ⟨rfl, hcap⟩ | ⟨bb, o, rfl, hbb, hcell⟩
  · obtain rfl : p = 0 := by omega
    obtain rfl : x = 0 := by omega
    obtain rfl : n = 0 := by omega
    obtain rfl : cap = 0 := by omega
    have HVE := Lib.hid (show Rv = ⟨#[]⟩ by rw [HV.out]; simp)
    have hz : ((0 : Nat) : Int) + ((0 : Nat) : Int) = 0 := rfl
    rw [hz] at HG e0 e1
    go_wp2_with fail
    generalize (W1.setCell ⟨b, 1, none⟩ (.int .i64 0)) = W2 at *
    have w4 : IntKind.i64.wrap 0 = 0 := rfl
    have kc : ∀ m, (convert 32 9 (.slice none 0 0)).run Tryz.prog (W2.drewN m) = .ok (.string ⟨#[]⟩) (W2.drewN m) := fun m => by rw [run_convert_bytes_string (W2.drewN m) 32 9 5 none 0 0 Tryz.underlying32 Tryz.underlying5 Tryz.underlying9]; rfl
    clear c0 c1 c2 f1 f2 w1 w2
    go_quiet (fail)
    go_wp2_with fail
    go_returns
    exact ⟨by rw [HVE.out]; rfl, by rw [HT.out, HP.out]; exact HG.out.1.drewN nq, HF.out.trans (HG.out.2.drewN nq)⟩
  · go_wp2_with fail
    have hlen : ((B.drop p).take x).length = x := by simp only [List.length_take, List.length_drop]; omega
    have kc : ∀ m, (convert 32 9 (.slice (if cap = p then some ⟨bb, o, none⟩ else some ⟨bb, o + p, none⟩) x (cap - p))).run Tryz.prog ((W1.setCell ⟨b, 1, none⟩ (.int .i64 ((p : Int) + x))).drewN m) = .ok (.string Rv) ((W1.setCell ⟨b, 1, none⟩ (.int .i64 ((p : Int) + x))).drewN m) := by
      intro m
      by_cases hcp : cap = p
      · obtain rfl : x = 0 := by omega
        have h := run_convert_bytes_back (P := Tryz.prog) ((W1.setCell ⟨b, 1, none⟩ (.int .i64 ((p : Int) + (0 : Nat)))).drewN m) 32 9 5 ⟨bb, o, none⟩ (cap - p) [] Tryz.underlying32 Tryz.underlying5 Tryz.underlying9 (fun j hj => absurd hj (Nat.not_lt_zero j))
        rw [if_pos hcp, HV.out, List.take_zero]
        exact h
      rw [if_neg hcp]
      have h := run_convert_bytes_back (P := Tryz.prog) ((W1.setCell ⟨b, 1, none⟩ (.int .i64 ((p : Int) + x))).drewN m) 32 9 5 ⟨bb, o + p, none⟩ (cap - p) ((B.drop p).take x) Tryz.underlying32 Tryz.underlying5 Tryz.underlying9 (fun j hj => by
        rw [add_at rfl]
        have hjx : j < x := by rw [hlen] at hj; exact hj
        have hB : B[p + j]? = some (((B.drop p).take x)[j]) := by
          rw [List.getElem_take, List.getElem_drop]
          exact List.getElem?_eq_getElem (by omega)
        have := hcell (p + j) _ hB
        rw [← Nat.add_assoc] at this
        show (W1.setCell ⟨b, 1, none⟩ (.int .i64 ((p : Int) + x))).cell? _ = _
        rw [World.cell?_setCell_other _ _ _ _ (by simp only [ne_eq, Addr.mk.injEq, not_and]; intro e; omega)]
        exact this)
      rw [hlen] at h
      rw [HV.out, HP.out]
      exact h
    have KC := Lib.hid kc
    generalize W1.setCell ⟨b, 1, none⟩ (.int .i64 ((p : Int) + x)) = W2 at *
    have kc := KC.out
    have i0 : (0 : Int) ≤ (p : Int) := by omega
    have i1 : (p : Int) ≤ (p : Int) + (x : Int) := by omega
    have i2 : (p : Int) + (x : Int) ≤ (cap : Int) := by omega
    have i3 : ((p : Int) + (x : Int)).toNat = p + x := by omega
    have w4 : IntKind.i64.wrap (p : Int) = (p : Int) := IntWalk.i64_in _ (by omega)
    clear c0 c1 c2 f1 f2 w1 hcell hlen
    go_quiet (fail)
    go_wp2_with fail
    all_goals (go_returns; exact ⟨rfl, by rw [HT.out, HP.out]; exact HG.out.1.drewN nq, HF.out.trans (HG.out.2.drewN nq)⟩)
end Go.Proofs.YtoaohoeghlidaaaGreatDoor
