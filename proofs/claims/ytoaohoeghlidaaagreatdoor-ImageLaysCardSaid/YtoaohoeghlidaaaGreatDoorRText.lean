/-
  The program's reader: how many follow, a text, a truth.
-/
import Derived.Test.YtoaohoeghlidaaaGreatDoorRNum
import Derived.Lib.ConvBytes
namespace Go.Proofs.YtoaohoeghlidaaaGreatDoor
open Go.ChangeShapes Go.WideShapes Go.ChangeAt Go.RowKit

theorem rNum_bd (B : List UInt8) (s : Rst) : -2147483648 ≤ (rNum B s).1 ∧ (rNum B s).1 ≤ 2147483647 := by
  unfold rNum
  split
  · simp only
    omega
  · simp only
    generalize B.drop s.at_ = l
    have h := un_bd (l.getD 0 0) (l.getD 1 0) (l.getD 2 0) (l.getD 3 0)
    unfold un4
    omega

set_option maxHeartbeats 1600000 in
set_option maxRecDepth 100000 in
theorem rcount_any (k : Nat) (hk : 0 < k) (hk4 : k ≤ 4) (B : List UInt8) (b : Nat) (s : Rst) (W : World) (h : RAt W b B s) :
    Calls Tryz.prog 78 #[.pointer (some ⟨b, 0, none⟩), .int .i64 k] W fun e W' => e = .returned (.int .i64 (rCount B k s).1) ∧ RAt W' b B (rCount B k s).2 ∧ KFr b W W' := by
  have hc := rnumber_any B b s W h
  have hbd := rNum_bd B s
  obtain ⟨⟨Rv, Rt⟩, hres⟩ : ∃ r, rCount B k s = r := ⟨_, rfl⟩
  rw [hres]
  unfold rCount at hres
  simp only at hres
  obtain ⟨⟨x, t⟩, hx⟩ : ∃ r, rNum B s = r := ⟨_, rfl⟩
  rw [hx] at hc hbd hres
  simp only at hc hbd hres
  have HRES := Lib.hid hres
  clear h hx hres
  go_enter Tryz.func78, Tryz.ntmps78
  go_wp2_with (go_at_call 90; refine hc.mono ?_)
  rintro e W1 ⟨rfl, hr, hf⟩
  obtain ⟨a, n, cap, c0, c1, c2, f1, f2, hB, ha, hn⟩ := hr.cells
  have hBl := hB.1
  have HR := Lib.hid hr
  have HF := Lib.hid hf
  obtain ⟨p, hp⟩ : ∃ p, t.at_ = p := ⟨_, rfl⟩
  rw [hp] at c1 ha
  obtain ⟨q, hq⟩ : ∃ q : Nat, (n - p) / k = q := ⟨_, rfl⟩
  have w1 : IntKind.i64.wrap ((n : Int) - (p : Int)) = (n : Int) - (p : Int) := IntWalk.i64_in _ (by omega)
  have w2 : ((n : Int) - (p : Int)).tdiv (k : Int) = (q : Int) := by
    rw [show (n : Int) - (p : Int) = ((n - p : Nat) : Int) by omega, ← hq]
    rfl
  have hq' : q ≤ n - p := by rw [← hq]; exact Nat.div_le_self _ _
  have w3 : IntKind.i64.wrap (q : Int) = (q : Int) := IntWalk.i64_in _ (by omega)
  have k0 : ((k : Int) == 0) = false := by simp; omega
  have kn : ((k : Int) == -1) = false := by simp
  rw [hBl, hp, hq] at HRES
  have HP := Lib.hid hp
  clear hr hf hB hc hq hp hBl
  by_cases h1 : x < 0
  · have d1 : decide (x < 0) = true := decide_eq_true h1
    have HE := Lib.hid (show Rv = 0 ∧ Rt = ⟨p, true⟩ by have := HRES.out; rw [if_pos (.inl h1)] at this; simp at this; exact ⟨this.1.symm, this.2.symm⟩)
    go_wp2_with fail
    go_quiet (fail)
    have H1 := Lib.hid (HR.out.drewN nq)
    have K1 := Lib.hid (HF.out.drewN nq)
    generalize W1.drewN nq = W2 at *
    clear c0 c1 c2 f1 f2 w1 w2 w3 d1 HR HF
    obtain ⟨a', n', cap', c0, c1, c2, f1, f2, -⟩ := H1.out.cells
    have HS := Lib.hid H1.out.spoil
    go_wp2_with fail
    go_returns
    exact ⟨by rw [HE.out.1]; rfl, by rw [HE.out.2, ← HP.out]; exact HS.out.1, K1.out.trans HS.out.2⟩
  · have d1 : decide (x < 0) = false := decide_eq_false h1
    by_cases h2 : 10000 < x
    · have d2 : decide (10000 < x) = true := decide_eq_true h2
      have HE := Lib.hid (show Rv = 0 ∧ Rt = ⟨p, true⟩ by have := HRES.out; rw [if_pos (.inr (.inl h2))] at this; simp at this; exact ⟨this.1.symm, this.2.symm⟩)
      go_wp2_with fail
      go_quiet (fail)
      have H1 := Lib.hid (HR.out.drewN nq)
      have K1 := Lib.hid (HF.out.drewN nq)
      generalize W1.drewN nq = W2 at *
      clear c0 c1 c2 f1 f2 w1 w2 w3 d1 d2 HR HF
      obtain ⟨a', n', cap', c0, c1, c2, f1, f2, -⟩ := H1.out.cells
      have HS := Lib.hid H1.out.spoil
      go_wp2_with fail
      go_returns
      exact ⟨by rw [HE.out.1]; rfl, by rw [HE.out.2, ← HP.out]; exact HS.out.1, K1.out.trans HS.out.2⟩
    · have d2 : decide (10000 < x) = false := decide_eq_false h2
      by_cases h3 : (q : Int) < x
      · have d3 : decide ((q : Int) < x) = true := decide_eq_true h3
        have HE := Lib.hid (show Rv = 0 ∧ Rt = ⟨p, true⟩ by have := HRES.out; rw [if_pos (.inr (.inr h3))] at this; simp at this; exact ⟨this.1.symm, this.2.symm⟩)
        go_wp2_with fail
        go_quiet (fail)
        have H1 := Lib.hid (HR.out.drewN nq)
        have K1 := Lib.hid (HF.out.drewN nq)
        generalize W1.drewN nq = W2 at *
        clear c0 c1 c2 f1 f2 w1 w2 w3 d1 d2 d3 HR HF
        obtain ⟨a', n', cap', c0, c1, c2, f1, f2, -⟩ := H1.out.cells
        have HS := Lib.hid H1.out.spoil
        go_wp2_with fail
        go_returns
        exact ⟨by rw [HE.out.1]; rfl, by rw [HE.out.2, ← HP.out]; exact HS.out.1, K1.out.trans HS.out.2⟩
      · have d3 : decide ((q : Int) < x) = false := decide_eq_false h3
        have HE := Lib.hid (show ((Rv : Nat) : Int) = x ∧ Rt = t by have := HRES.out; rw [if_neg (by omega)] at this; simp at this; exact ⟨by omega, this.2.symm⟩)
        go_wp2_with fail
        go_quiet (fail)
        have H1 := Lib.hid (HR.out.drewN nq)
        have K1 := Lib.hid (HF.out.drewN nq)
        generalize W1.drewN nq = W2 at *
        clear c0 c1 c2 f1 f2 w1 w2 w3 d1 d2 d3 HR HF
        go_wp2_with fail
        go_returns
        exact ⟨by rw [HE.out.1]; rfl, by rw [HE.out.2]; exact H1.out, K1.out⟩

set_option maxHeartbeats 1600000 in
set_option maxRecDepth 100000 in
theorem rflag_any (B : List UInt8) (b : Nat) (s : Rst) (W : World) (h : RAt W b B s) :
    Calls Tryz.prog 104 #[.pointer (some ⟨b, 0, none⟩)] W fun e W' => e = .returned (.bool (rFlag B s).1) ∧ RAt W' b B (rFlag B s).2 ∧ KFr b W W' := by
  have hc := rnumber_any B b s W h
  obtain ⟨⟨Rv, Rt⟩, hres⟩ : ∃ r, rFlag B s = r := ⟨_, rfl⟩
  rw [hres]
  unfold rFlag at hres
  simp only at hres
  obtain ⟨⟨x, t⟩, hx⟩ : ∃ r, rNum B s = r := ⟨_, rfl⟩
  rw [hx] at hc hres
  simp only at hc hres
  have hv : Rv = (x == 1) := by cases hres; rfl
  have ht : Rt = ⟨t.at_, if x ≠ 0 ∧ x ≠ 1 then true else t.wrong⟩ := by cases hres; rfl
  have HV := Lib.hid hv
  have HT := Lib.hid ht
  clear h hx hres hv ht
  go_enter Tryz.func104, Tryz.ntmps104
  go_wp2_with (go_at_call 90; refine hc.mono ?_)
  rintro e W1 ⟨rfl, hr, hf⟩
  obtain ⟨a, n, cap, c0, c1, c2, f1, f2, -⟩ := hr.cells
  have HR := Lib.hid hr
  have HF := Lib.hid hf
  have HS := Lib.hid hr.spoil
  clear hr hf hc
  by_cases h0 : x = 0
  · have d0 : (x != 0) = false := by simp [h0]
    have d1 : (x == 1) = false := by simp [h0]
    have HT2 := Lib.hid (show Rt = t by rw [HT.out, if_neg (by simp [h0])])
    clear h0
    go_wp2_with fail
    go_returns
    exact ⟨by rw [HV.out, d1]; rfl, by rw [HT2.out]; exact HR.out, HF.out⟩
  · have d0 : (x != 0) = true := by simp [h0]
    by_cases h1 : x = 1
    · have d1 : (x != 1) = false := by simp [h1]
      have d2 : (x == 1) = true := by simp [h1]
      have HT2 := Lib.hid (show Rt = t by rw [HT.out, if_neg (by simp [h1])])
      clear h0 h1
      go_wp2_with fail
      go_returns
      exact ⟨by rw [HV.out, d2]; rfl, by rw [HT2.out]; exact HR.out, HF.out⟩
    · have d1 : (x != 1) = true := by simp [h1]
      have d2 : (x == 1) = false := by simp [h1]
      have HT2 := Lib.hid (show Rt = ⟨t.at_, true⟩ by rw [HT.out, if_pos ⟨h0, h1⟩])
      clear h0 h1
      go_wp2_with fail
      go_returns
      exact ⟨by rw [HV.out, d2]; rfl, by rw [HT2.out]; exact HS.out.1, HF.out.trans HS.out.2⟩

set_option maxHeartbeats 1600000 in
set_option maxRecDepth 100000 in
theorem rtext_any (B : List UInt8) (b : Nat) (s : Rst) (W : World) (h : RAt W b B s) :
    Calls Tryz.prog 44 #[.pointer (some ⟨b, 0, none⟩)] W fun e W' => e = .returned (.string (rText B s).1) ∧ RAt W' b B (rText B s).2 ∧ KFr b W W' := by
  have hc := rcount_any 1 (by omega) (by omega) B b s W h
  have hin := rCount_fit B 1 s (by obtain ⟨_, _, _, _, _, h3, _⟩ := h; exact h3)
  obtain ⟨⟨Rv, Rt⟩, hres⟩ : ∃ r, rText B s = r := ⟨_, rfl⟩
  rw [hres]
  unfold rText at hres
  simp only at hres
  obtain ⟨⟨x, t⟩, hx⟩ : ∃ r, rCount B 1 s = r := ⟨_, rfl⟩
  rw [hx] at hc hres hin
  simp only at hc hres hin
  have hv : Rv = ⟨((B.drop t.at_).take x).toArray⟩ := by cases hres; rfl
  have ht : Rt = ⟨t.at_ + x, t.wrong⟩ := by cases hres; rfl
  have HV := Lib.hid hv
  have HT := Lib.hid ht
  clear h hx hres hv ht
  go_enter Tryz.func44, Tryz.ntmps44
  go_wp2_with (go_at_call 78; refine hc.mono ?_)
  rintro e W1 ⟨rfl, hr, hf⟩
  obtain ⟨a, n, cap, c0, c1, c2, f1, f2, hB, ha, hn⟩ := hr.cells
  obtain ⟨p, hp⟩ : ∃ p, t.at_ = p := ⟨_, rfl⟩
  rw [hp] at c1 ha hin
  have hBl := hB.1
  have hg := hr.go (p + x) (by omega)
  have HB := Lib.hid hB
  rw [show ((p + x : Nat) : Int) = (p : Int) + x by omega] at hg
  have w1 : IntKind.i64.wrap ((p : Int) + (x : Int)) = (p : Int) + x := IntWalk.i64_in _ (by omega)
  have HF := Lib.hid hf
  have HG := Lib.hid hg
  have HP := Lib.hid hp
  have HBL := Lib.hid hBl
  clear hr hf hc hg hB hp hBl
  have w2 : IntKind.i64.wrap ((p : Int) + (x : Int) - (x : Int)) = (p : Int) := (IntWalk.i64_in _ (by omega)).trans (by omega)
  obtain ⟨hb1, hb2, hb3, hb4⟩ := HB.out
  have hW2 : (W1.setCell ⟨b, 1, none⟩ (.int .i64 ((p : Int) + x))).cell? ⟨b, 0, none⟩ = some (.slice a n cap) ∧ (W1.setCell ⟨b, 1, none⟩ (.int .i64 ((p : Int) + x))).cell? ⟨b, 1, none⟩ = some (.int .i64 ((p : Int) + x)) := by
    obtain ⟨a', n', cap', g1, -⟩ := HG.out.1
    have hh := World.cell?_setCell_other W1 ⟨b, 1, none⟩ ⟨b, 0, none⟩ (.int .i64 ((p : Int) + x)) (by simp)
    refine ⟨hh.trans c0, ?_⟩
    rw [Lib.cell_of_heap g1]
    show some (Value.int _ _) = _
    simp only [Option.some.injEq, Value.int.injEq, true_and]
    omega
  obtain ⟨e0, e1⟩ := hW2
  rcases hb4 with ⟨rfl, hcap⟩ | ⟨bb, o, rfl, hbb, hcell⟩
  · obtain rfl : p = 0 := by omega
    obtain rfl : x = 0 := by omega
    obtain rfl : n = 0 := by omega
    obtain rfl : cap = 0 := by omega
    have HVE := Lib.hid (show Rv = ⟨#[]⟩ by rw [HV.out]; simp)
    have hz : ((0 : Nat) : Int) + ((0 : Nat) : Int) = 0 := rfl
    rw [hz] at HG e0 e1
    go_wp2_with fail
    generalize (W1.setCell ⟨b, 1, none⟩ (.int .i64 0)) = W2 at *
    have w4 : IntKind.i64.wrap 0 = 0 := rfl
    have kc : ∀ m, (convert 32 9 (.slice none 0 0)).run Tryz.prog (W2.drewN m) = .ok (.string ⟨#[]⟩) (W2.drewN m) := fun m => by rw [run_convert_bytes_string (W2.drewN m) 32 9 5 none 0 0 Tryz.underlying32 Tryz.underlying5 Tryz.underlying9]; rfl
    clear c0 c1 c2 f1 f2 w1 w2
    go_quiet (fail)
    go_wp2_with fail
    go_returns
    exact ⟨by rw [HVE.out]; rfl, by rw [HT.out, HP.out]; exact HG.out.1.drewN nq, HF.out.trans (HG.out.2.drewN nq)⟩
  · go_wp2_with fail
    have hlen : ((B.drop p).take x).length = x := by simp only [List.length_take, List.length_drop]; omega
    have kc : ∀ m, (convert 32 9 (.slice (if cap = p then some ⟨bb, o, none⟩ else some ⟨bb, o + p, none⟩) x (cap - p))).run Tryz.prog ((W1.setCell ⟨b, 1, none⟩ (.int .i64 ((p : Int) + x))).drewN m) = .ok (.string Rv) ((W1.setCell ⟨b, 1, none⟩ (.int .i64 ((p : Int) + x))).drewN m) := by
      intro m
      by_cases hcp : cap = p
      · obtain rfl : x = 0 := by omega
        have h := run_convert_bytes_back (P := Tryz.prog) ((W1.setCell ⟨b, 1, none⟩ (.int .i64 ((p : Int) + (0 : Nat)))).drewN m) 32 9 5 ⟨bb, o, none⟩ (cap - p) [] Tryz.underlying32 Tryz.underlying5 Tryz.underlying9 (fun j hj => absurd hj (Nat.not_lt_zero j))
        rw [if_pos hcp, HV.out, List.take_zero]
        exact h
      rw [if_neg hcp]
      have h := run_convert_bytes_back (P := Tryz.prog) ((W1.setCell ⟨b, 1, none⟩ (.int .i64 ((p : Int) + x))).drewN m) 32 9 5 ⟨bb, o + p, none⟩ (cap - p) ((B.drop p).take x) Tryz.underlying32 Tryz.underlying5 Tryz.underlying9 (fun j hj => by
        rw [add_at rfl]
        have hjx : j < x := by rw [hlen] at hj; exact hj
        have hB : B[p + j]? = some (((B.drop p).take x)[j]) := by
          rw [List.getElem_take, List.getElem_drop]
          exact List.getElem?_eq_getElem (by omega)
        have := hcell (p + j) _ hB
        rw [← Nat.add_assoc] at this
        show (W1.setCell ⟨b, 1, none⟩ (.int .i64 ((p : Int) + x))).cell? _ = _
        rw [World.cell?_setCell_other _ _ _ _ (by simp only [ne_eq, Addr.mk.injEq, not_and]; intro e; omega)]
        exact this)
      rw [hlen] at h
      rw [HV.out, HP.out]
      exact h
    have KC := Lib.hid kc
    generalize W1.setCell ⟨b, 1, none⟩ (.int .i64 ((p : Int) + x)) = W2 at *
    have kc := KC.out
    have i0 : (0 : Int) ≤ (p : Int) := by omega
    have i1 : (p : Int) ≤ (p : Int) + (x : Int) := by omega
    have i2 : (p : Int) + (x : Int) ≤ (cap : Int) := by omega
    have i3 : ((p : Int) + (x : Int)).toNat = p + x := by omega
    have w4 : IntKind.i64.wrap (p : Int) = (p : Int) := IntWalk.i64_in _ (by omega)
    clear c0 c1 c2 f1 f2 w1 hcell hlen
    go_quiet (fail)
    go_wp2_with fail
    all_goals (go_returns; exact ⟨rfl, by rw [HT.out, HP.out]; exact HG.out.1.drewN nq, HF.out.trans (HG.out.2.drewN nq)⟩)
end Go.Proofs.YtoaohoeghlidaaaGreatDoor
