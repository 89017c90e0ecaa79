/-
  The program's writer: lists.
-/
import Derived.Test.YtoaohoeghlidaaaGreatDoorWText
import Derived.Test.YtoaohoeghlidaaaGreatDoorForms
namespace Go.Proofs.YtoaohoeghlidaaaGreatDoor
open Go.ChangeShapes Go.WideShapes Go.ChangeAt Go.RowKit

/-- a function of the program that writes one -/
def Wr (f : Nat) (mk : List Value → Value) {T : Type} (sh : Sh T) (c : Codec T) (g : Nat) : Prop :=
  ∀ (B b : Nat) (s : Wst) (vs : List Value) (x : T) (W : World), sh.Is (fun k => k < B) W vs x → WAt W B b s → s.bs.length + g ≤ 100000000000000 → B ≤ W.heap.size →
    Calls Tryz.prog f #[.pointer (some ⟨b, 0, none⟩), mk vs] W fun e W' => e = .returned (.tuple #[]) ∧ WAt W' B b (c.w x s) ∧ Fr 64 5 B W W'
/-- how much longer one makes the bytes -/
def Grow {T : Type} (c : Codec T) (g : Nat) : Prop := ∀ x s, (c.w x s).bs.length ≤ s.bs.length + g
theorem grow_num : Grow cNum 4 := by
  intro x s
  show (wNum x s).bs.length ≤ _
  unfold wNum
  split
  · exact Nat.le_add_right _ _
  · rw [List.length_append, be_len]; exact Nat.le_refl _
theorem grow_flag : Grow cFlag 4 := fun x s => grow_num (if x then 1 else 0) s
theorem grow_text : Grow cText 10004 := by
  intro x s
  show (wText x s).bs.length ≤ _
  unfold wText
  split
  · exact Nat.le_add_right _ _
  · rw [List.length_append, List.length_append, be_len]
    have : x.data.toList.length = x.size := rfl
    omega
theorem grow_pair {A C : Type} {a : Codec A} {c : Codec C} {g h : Nat} (ha : Grow a g) (hc : Grow c h) : Grow (cPair a c) (g + h) := by
  intro x s
  have h1 := ha x.1 s
  have h2 := hc x.2 (a.w x.1 s)
  show (c.w x.2 (a.w x.1 s)).bs.length ≤ _
  omega
theorem grow_iso {A C : Type} {a : Codec A} {f : A → C} {i : C → A} {h h'} {g : Nat} (ha : Grow a g) : Grow (cIso a f i h h') g := fun x s => ha (i x) s
theorem grow_go {T : Type} {c : Codec T} {g : Nat} (hc : Grow c g) : ∀ (xs : List T) (s : Wst), (wGo c.w xs s).bs.length ≤ s.bs.length + xs.length * g
  | [], s => by simp [wGo]
  | x :: xs, s => by
    unfold wGo
    split
    · exact Nat.le_add_right _ _
    · have h1 := hc x s
      have h2 := grow_go hc xs (c.w x s)
      rw [List.length_cons, Nat.add_mul]
      omega
theorem grow_list {T : Type} {c : Codec T} {g : Nat} (hc : Grow c g) : Grow (cList c) (4 + 10000 * g) := by
  intro xs s
  show (wList c.w xs s).bs.length ≤ _
  unfold wList
  split
  · exact Nat.le_add_right _ _
  · rename_i h
    have h1 := grow_go hc xs ⟨s.bs ++ be xs.length, s.full⟩
    simp only [List.length_append, be_len] at h1
    have h2 : xs.length * g ≤ 10000 * g := Nat.mul_le_mul_right g (by omega)
    omega
theorem wGo_next {T : Type} {one : T → Wst → Wst} {xs : List T} {k : Nat} {x : T} {s : Wst} (hx : xs[k]? = some x) (hf : s.full = false) : wGo one (xs.drop k) s = wGo one (xs.drop (k + 1)) (one x s) := by
  have hk : k < xs.length := (List.getElem?_eq_some_iff.1 hx).1
  rw [List.drop_eq_getElem_cons hk]
  have : xs[k] = x := by rw [List.getElem?_eq_getElem hk] at hx; exact Option.some.inj hx
  rw [this]
  conv => lhs; unfold wGo
  rw [if_neg (by simp [hf])]
theorem wGo_stop {T : Type} {one : T → Wst → Wst} {xs : List T} {s : Wst} (hf : s.full = true) : wGo one xs s = s := wGo_full one xs s hf
theorem kept_row {T : Type} {sh : Sh T} {B : Nat} {W W' : World} {a l} {xs : List T} (h : Row sh (fun k => k < B) W a l xs) (hf : Fr 64 5 B W W') : Row sh (fun k => k < B) W' a l xs := h.keep (fun k hk => hf.below.block k hk)
theorem le_prod {k l g : Nat} (h : k ≤ l) : k * g ≤ l * g := Nat.mul_le_mul_right g h

set_option maxHeartbeats 1600000 in
set_option maxRecDepth 100000 in
theorem listInts (g : Nat) (H : Wr 67 mk1 shInt cNum g) (hg : Grow cNum g) (B b : Nat) (s : Wst) (a : Option Addr) (l cap : Nat) (xs : List Int) (W : World) (hr : Row shInt (fun k => k < B) W a l xs) (h : WAt W B b s) (hs : s.bs.length + (4 + 10000 * g) ≤ 100000000000000) (hB : B ≤ W.heap.size) :
    Calls Tryz.prog 96 #[.pointer (some ⟨b, 0, none⟩), .slice a l cap, .func (.func 67) #[] #[]] W fun e W' => e = .returned (.tuple #[]) ∧ WAt W' B b ((cList cNum).w xs s) ∧ Fr 64 5 B W W' := by
  have hc := count_any l B b s (by omega) W hB h
  show Calls _ _ _ _ fun e W' => e = .returned (.tuple #[]) ∧ WAt W' B b (wList cNum.w xs s) ∧ Fr 64 5 B W W'
  unfold wList
  rw [hr.1]
  by_cases hn : 10000 < l
  · rw [if_pos hn] at hc ⊢
    have d1 : decide (l ≤ 10000) = false := decide_eq_false (by omega)
    rw [d1] at hc
    clear h hn d1 hr
    go_enter Tryz.func96, Tryz.ntmps96
    go_wp2_with (go_at_call 54; refine hc.mono ?_)
    first | rintro e W1 rfl hw hf | rintro e W1 ⟨rfl, hw, hf⟩
    have HW := Lib.hid hw
    have HF := Lib.hid hf
    clear hw hf hc
    go_wp2_with fail
    go_returns
    exact ⟨rfl, HW.out, HF.out⟩
  · rw [if_neg hn] at hc ⊢
    have d1 : decide (l ≤ 10000) = true := decide_eq_true (by omega)
    rw [d1] at hc
    have HR := Lib.hid hr
    have hl0 : l ≤ 10000 := by omega
    have HLG := Lib.hid (le_prod (g := g) hl0)
    generalize hres : wGo cNum.w xs ⟨s.bs ++ be l, s.full⟩ = R
    have HRES := Lib.hid hres
    clear h hn d1 hr hres
    go_enter Tryz.func96, Tryz.ntmps96
    go_wp2_with (go_at_call 54; refine hc.mono ?_)
    first | rintro e W1 rfl hw hf | rintro e W1 ⟨rfl, hw, hf⟩
    have HW := Lib.hid hw
    have HF := Lib.hid hf
    clear hw hf hc
    go_wp2_with fail
    go_loopw [15] (fun i wr => ∃ (k : Nat) (t : Wst), k ≤ l ∧ i = .int .i64 k ∧ WAt wr B b t ∧ Fr 64 5 B W wr ∧ t.bs.length ≤ s.bs.length + 4 + k * g ∧ wGo cNum.w (xs.drop k) t = R) (fun i _ => l - (intOf i).toNat)
    case atStart => exact ⟨0, _, Nat.zero_le _, rfl, HW.out, HF.out, by simp [be_len], by rw [List.drop_zero]; exact HRES.out⟩
    case round =>
      clear HW
      obtain ⟨k, t, hk, rfl, hw, hf, hlen, hgo⟩ := hrel
      have HLEN := Lib.hid hlen
      have HGO := Lib.hid hgo
      obtain ⟨b1, b2, b3⟩ := hw.cells
      have HW := Lib.hid hw
      have HFR := Lib.hid hf
      clear hw hf hlen hgo
      by_cases hlt : k < l
      · obtain ⟨bb, o, x, vs, rfl, hbb, hx, hC, hI⟩ := (kept_row HR.out HFR.out).item hlt
        have i0 : (k : Int) < (l : Int) := by omega
        have i1 : (0 : Int) ≤ (k : Int) := by omega
        have HI := Lib.hid hI
        obtain rfl := int_is.1 hI
        have e0 : wr.cell? ⟨bb, o + k, none⟩ = some (.int .i64 x) := by have := hC 0 _ rfl; rw [show o + k * shInt.n + 0 = o + k by show o + k * 1 + 0 = _; omega] at this; exact this
        have HX := Lib.hid hx
        have HBB := Lib.hid hbb
        clear hC hI hx hbb 
        cases hfull : t.full with
        | true =>
          rw [hfull] at b1
          have HFL := Lib.hid hfull
          clear hfull
          go_wp2_with fail
          go_returns
          refine ⟨rfl, ?_, HFR.out⟩
          rw [← HGO.out, wGo_stop HFL.out]
          exact HW.out
        | false =>
          rw [hfull] at b1
          have hgl := HLG.out
          have hkg : k * g + g ≤ l * g := by rw [← Nat.succ_mul]; exact le_prod (by omega)
          have hHc := H B b t [.int .i64 x] x wr HI.out HW.out (by have := HLEN.out; omega) (by have := HFR.out.size; omega)
          have HFL := Lib.hid hfull
          have HKG := Lib.hid hkg
          clear hfull hgl hkg
          go_wp2_with (go_at_call 67; refine hHc.mono ?_)
          first | rintro e W2 rfl hw2 hf2 | rintro e W2 ⟨rfl, hw2, hf2⟩
          have HW2 := Lib.hid hw2
          have HF2 := Lib.hid hf2
          clear hw2 hf2 hHc
          go_wp2_with fail
          refine ⟨⟨k + 1, cNum.w x t, by omega, by go_num, HW2.out, HFR.out.trans HF2.out, ?_, ?_⟩, by simp [intOf]; omega⟩
          · have h1 := hg x t
            have h2 := HLEN.out
            rw [Nat.succ_mul]
            omega
          · rw [← HGO.out, wGo_next HX.out HFL.out]
      · obtain rfl : k = l := by omega
        have HEND := Lib.hid (show t = R by rw [← HGO.out, List.drop_of_length_le (by rw [HR.out.1]; exact Nat.le_refl _)]; rfl)
        go_wp2_with fail
        go_returns
        exact ⟨rfl, by rw [← HEND.out]; exact HW.out, HFR.out⟩

set_option maxHeartbeats 1600000 in
set_option maxRecDepth 100000 in
theorem listTexts (g : Nat) (H : Wr 21 mk1 shStr cText g) (hg : Grow cText g) (B b : Nat) (s : Wst) (a : Option Addr) (l cap : Nat) (xs : List ByteArray) (W : World) (hr : Row shStr (fun k => k < B) W a l xs) (h : WAt W B b s) (hs : s.bs.length + (4 + 10000 * g) ≤ 100000000000000) (hB : B ≤ W.heap.size) :
    Calls Tryz.prog 57 #[.pointer (some ⟨b, 0, none⟩), .slice a l cap, .func (.func 21) #[] #[]] W fun e W' => e = .returned (.tuple #[]) ∧ WAt W' B b ((cList cText).w xs s) ∧ Fr 64 5 B W W' := by
  have hc := count_any l B b s (by omega) W hB h
  show Calls _ _ _ _ fun e W' => e = .returned (.tuple #[]) ∧ WAt W' B b (wList cText.w xs s) ∧ Fr 64 5 B W W'
  unfold wList
  rw [hr.1]
  by_cases hn : 10000 < l
  · rw [if_pos hn] at hc ⊢
    have d1 : decide (l ≤ 10000) = false := decide_eq_false (by omega)
    rw [d1] at hc
    clear h hn d1 hr
    go_enter Tryz.func57, Tryz.ntmps57
    go_wp2_with (go_at_call 54; refine hc.mono ?_)
    first | rintro e W1 rfl hw hf | rintro e W1 ⟨rfl, hw, hf⟩
    have HW := Lib.hid hw
    have HF := Lib.hid hf
    clear hw hf hc
    go_wp2_with fail
    go_returns
    exact ⟨rfl, HW.out, HF.out⟩
  · rw [if_neg hn] at hc ⊢
    have d1 : decide (l ≤ 10000) = true := decide_eq_true (by omega)
    rw [d1] at hc
    have HR := Lib.hid hr
    have hl0 : l ≤ 10000 := by omega
    have HLG := Lib.hid (le_prod (g := g) hl0)
    generalize hres : wGo cText.w xs ⟨s.bs ++ be l, s.full⟩ = R
    have HRES := Lib.hid hres
    clear h hn d1 hr hres
    go_enter Tryz.func57, Tryz.ntmps57
    go_wp2_with (go_at_call 54; refine hc.mono ?_)
    first | rintro e W1 rfl hw hf | rintro e W1 ⟨rfl, hw, hf⟩
    have HW := Lib.hid hw
    have HF := Lib.hid hf
    clear hw hf hc
    go_wp2_with fail
    go_loopw [15] (fun i wr => ∃ (k : Nat) (t : Wst), k ≤ l ∧ i = .int .i64 k ∧ WAt wr B b t ∧ Fr 64 5 B W wr ∧ t.bs.length ≤ s.bs.length + 4 + k * g ∧ wGo cText.w (xs.drop k) t = R) (fun i _ => l - (intOf i).toNat)
    case atStart => exact ⟨0, _, Nat.zero_le _, rfl, HW.out, HF.out, by simp [be_len], by rw [List.drop_zero]; exact HRES.out⟩
    case round =>
      clear HW
      obtain ⟨k, t, hk, rfl, hw, hf, hlen, hgo⟩ := hrel
      have HLEN := Lib.hid hlen
      have HGO := Lib.hid hgo
      obtain ⟨b1, b2, b3⟩ := hw.cells
      have HW := Lib.hid hw
      have HFR := Lib.hid hf
      clear hw hf hlen hgo
      by_cases hlt : k < l
      · obtain ⟨bb, o, x, vs, rfl, hbb, hx, hC, hI⟩ := (kept_row HR.out HFR.out).item hlt
        have i0 : (k : Int) < (l : Int) := by omega
        have i1 : (0 : Int) ≤ (k : Int) := by omega
        have HI := Lib.hid hI
        obtain rfl := str_is.1 hI
        have e0 : wr.cell? ⟨bb, o + k, none⟩ = some (.string x) := by have := hC 0 _ rfl; rw [show o + k * shStr.n + 0 = o + k by show o + k * 1 + 0 = _; omega] at this; exact this
        have HX := Lib.hid hx
        have HBB := Lib.hid hbb
        clear hC hI hx hbb 
        cases hfull : t.full with
        | true =>
          rw [hfull] at b1
          have HFL := Lib.hid hfull
          clear hfull
          go_wp2_with fail
          go_returns
          refine ⟨rfl, ?_, HFR.out⟩
          rw [← HGO.out, wGo_stop HFL.out]
          exact HW.out
        | false =>
          rw [hfull] at b1
          have hgl := HLG.out
          have hkg : k * g + g ≤ l * g := by rw [← Nat.succ_mul]; exact le_prod (by omega)
          have hHc := H B b t [.string x] x wr HI.out HW.out (by have := HLEN.out; omega) (by have := HFR.out.size; omega)
          have HFL := Lib.hid hfull
          have HKG := Lib.hid hkg
          clear hfull hgl hkg
          go_wp2_with (go_at_call 21; refine hHc.mono ?_)
          first | rintro e W2 rfl hw2 hf2 | rintro e W2 ⟨rfl, hw2, hf2⟩
          have HW2 := Lib.hid hw2
          have HF2 := Lib.hid hf2
          clear hw2 hf2 hHc
          go_wp2_with fail
          refine ⟨⟨k + 1, cText.w x t, by omega, by go_num, HW2.out, HFR.out.trans HF2.out, ?_, ?_⟩, by simp [intOf]; omega⟩
          · have h1 := hg x t
            have h2 := HLEN.out
            rw [Nat.succ_mul]
            omega
          · rw [← HGO.out, wGo_next HX.out HFL.out]
      · obtain rfl : k = l := by omega
        have HEND := Lib.hid (show t = R by rw [← HGO.out, List.drop_of_length_le (by rw [HR.out.1]; exact Nat.le_refl _)]; rfl)
        go_wp2_with fail
        go_returns
        exact ⟨rfl, by rw [← HEND.out]; exact HW.out, HFR.out⟩

set_option maxHeartbeats 1600000 in
set_option maxRecDepth 100000 in
theorem listFaces (g : Nat) (H : Wr 56 mk1 shTexts cTexts g) (hg : Grow cTexts g) (B b : Nat) (s : Wst) (a : Option Addr) (l cap : Nat) (xs : List (List ByteArray)) (W : World) (hr : Row shTexts (fun k => k < B) W a l xs) (h : WAt W B b s) (hs : s.bs.length + (4 + 10000 * g) ≤ 100000000000000) (hB : B ≤ W.heap.size) :
    Calls Tryz.prog 55 #[.pointer (some ⟨b, 0, none⟩), .slice a l cap, .func (.func 56) #[] #[]] W fun e W' => e = .returned (.tuple #[]) ∧ WAt W' B b ((cList cTexts).w xs s) ∧ Fr 64 5 B W W' := by
  have hc := count_any l B b s (by omega) W hB h
  show Calls _ _ _ _ fun e W' => e = .returned (.tuple #[]) ∧ WAt W' B b (wList cTexts.w xs s) ∧ Fr 64 5 B W W'
  unfold wList
  rw [hr.1]
  by_cases hn : 10000 < l
  · rw [if_pos hn] at hc ⊢
    have d1 : decide (l ≤ 10000) = false := decide_eq_false (by omega)
    rw [d1] at hc
    clear h hn d1 hr
    go_enter Tryz.func55, Tryz.ntmps55
    go_wp2_with (go_at_call 54; refine hc.mono ?_)
    first | rintro e W1 rfl hw hf | rintro e W1 ⟨rfl, hw, hf⟩
    have HW := Lib.hid hw
    have HF := Lib.hid hf
    clear hw hf hc
    go_wp2_with fail
    go_returns
    exact ⟨rfl, HW.out, HF.out⟩
  · rw [if_neg hn] at hc ⊢
    have d1 : decide (l ≤ 10000) = true := decide_eq_true (by omega)
    rw [d1] at hc
    have HR := Lib.hid hr
    have hl0 : l ≤ 10000 := by omega
    have HLG := Lib.hid (le_prod (g := g) hl0)
    generalize hres : wGo cTexts.w xs ⟨s.bs ++ be l, s.full⟩ = R
    have HRES := Lib.hid hres
    clear h hn d1 hr hres
    go_enter Tryz.func55, Tryz.ntmps55
    go_wp2_with (go_at_call 54; refine hc.mono ?_)
    first | rintro e W1 rfl hw hf | rintro e W1 ⟨rfl, hw, hf⟩
    have HW := Lib.hid hw
    have HF := Lib.hid hf
    clear hw hf hc
    go_wp2_with fail
    go_loopw [15] (fun i wr => ∃ (k : Nat) (t : Wst), k ≤ l ∧ i = .int .i64 k ∧ WAt wr B b t ∧ Fr 64 5 B W wr ∧ t.bs.length ≤ s.bs.length + 4 + k * g ∧ wGo cTexts.w (xs.drop k) t = R) (fun i _ => l - (intOf i).toNat)
    case atStart => exact ⟨0, _, Nat.zero_le _, rfl, HW.out, HF.out, by simp [be_len], by rw [List.drop_zero]; exact HRES.out⟩
    case round =>
      clear HW
      obtain ⟨k, t, hk, rfl, hw, hf, hlen, hgo⟩ := hrel
      have HLEN := Lib.hid hlen
      have HGO := Lib.hid hgo
      obtain ⟨b1, b2, b3⟩ := hw.cells
      have HW := Lib.hid hw
      have HFR := Lib.hid hf
      clear hw hf hlen hgo
      by_cases hlt : k < l
      · obtain ⟨bb, o, x, vs, rfl, hbb, hx, hC, hI⟩ := (kept_row HR.out HFR.out).item hlt
        have i0 : (k : Int) < (l : Int) := by omega
        have i1 : (0 : Int) ≤ (k : Int) := by omega
        have HI := Lib.hid hI
        obtain ⟨a0, l0, c0, rfl, h0⟩ := slice_is.1 hI
        have e0 : wr.cell? ⟨bb, o + k, none⟩ = some (.slice a0 l0 c0) := by have := hC 0 _ rfl; rw [show o + k * shTexts.n + 0 = o + k by show o + k * 1 + 0 = _; omega] at this; exact this
        have HX := Lib.hid hx
        have HBB := Lib.hid hbb
        clear hC hI hx hbb h0
        cases hfull : t.full with
        | true =>
          rw [hfull] at b1
          have HFL := Lib.hid hfull
          clear hfull
          go_wp2_with fail
          go_returns
          refine ⟨rfl, ?_, HFR.out⟩
          rw [← HGO.out, wGo_stop HFL.out]
          exact HW.out
        | false =>
          rw [hfull] at b1
          have hgl := HLG.out
          have hkg : k * g + g ≤ l * g := by rw [← Nat.succ_mul]; exact le_prod (by omega)
          have hHc := H B b t [.slice a0 l0 c0] x wr HI.out HW.out (by have := HLEN.out; omega) (by have := HFR.out.size; omega)
          have HFL := Lib.hid hfull
          have HKG := Lib.hid hkg
          clear hfull hgl hkg
          go_wp2_with (go_at_call 56; refine hHc.mono ?_)
          first | rintro e W2 rfl hw2 hf2 | rintro e W2 ⟨rfl, hw2, hf2⟩
          have HW2 := Lib.hid hw2
          have HF2 := Lib.hid hf2
          clear hw2 hf2 hHc
          go_wp2_with fail
          refine ⟨⟨k + 1, cTexts.w x t, by omega, by go_num, HW2.out, HFR.out.trans HF2.out, ?_, ?_⟩, by simp [intOf]; omega⟩
          · have h1 := hg x t
            have h2 := HLEN.out
            rw [Nat.succ_mul]
            omega
          · rw [← HGO.out, wGo_next HX.out HFL.out]
      · obtain rfl : k = l := by omega
        have HEND := Lib.hid (show t = R by rw [← HGO.out, List.drop_of_length_le (by rw [HR.out.1]; exact Nat.le_refl _)]; rfl)
        go_wp2_with fail
        go_returns
        exact ⟨rfl, by rw [← HEND.out]; exact HW.out, HFR.out⟩

set_option maxHeartbeats 1600000 in
set_option maxRecDepth 100000 in
theorem listTables (g : Nat) (H : Wr 92 mkA shTable cTable g) (hg : Grow cTable g) (B b : Nat) (s : Wst) (a : Option Addr) (l cap : Nat) (xs : List TableD) (W : World) (hr : Row shTable (fun k => k < B) W a l xs) (h : WAt W B b s) (hs : s.bs.length + (4 + 10000 * g) ≤ 100000000000000) (hB : B ≤ W.heap.size) :
    Calls Tryz.prog 91 #[.pointer (some ⟨b, 0, none⟩), .slice a l cap, .func (.func 92) #[] #[]] W fun e W' => e = .returned (.tuple #[]) ∧ WAt W' B b ((cList cTable).w xs s) ∧ Fr 64 5 B W W' := by
  have hc := count_any l B b s (by omega) W hB h
  show Calls _ _ _ _ fun e W' => e = .returned (.tuple #[]) ∧ WAt W' B b (wList cTable.w xs s) ∧ Fr 64 5 B W W'
  unfold wList
  rw [hr.1]
  by_cases hn : 10000 < l
  · rw [if_pos hn] at hc ⊢
    have d1 : decide (l ≤ 10000) = false := decide_eq_false (by omega)
    rw [d1] at hc
    clear h hn d1 hr
    go_enter Tryz.func91, Tryz.ntmps91
    go_wp2_with (go_at_call 54; refine hc.mono ?_)
    first | rintro e W1 rfl hw hf | rintro e W1 ⟨rfl, hw, hf⟩
    have HW := Lib.hid hw
    have HF := Lib.hid hf
    clear hw hf hc
    go_wp2_with fail
    go_returns
    exact ⟨rfl, HW.out, HF.out⟩
  · rw [if_neg hn] at hc ⊢
    have d1 : decide (l ≤ 10000) = true := decide_eq_true (by omega)
    rw [d1] at hc
    have HR := Lib.hid hr
    have hl0 : l ≤ 10000 := by omega
    have HLG := Lib.hid (le_prod (g := g) hl0)
    generalize hres : wGo cTable.w xs ⟨s.bs ++ be l, s.full⟩ = R
    have HRES := Lib.hid hres
    clear h hn d1 hr hres
    go_enter Tryz.func91, Tryz.ntmps91
    go_wp2_with (go_at_call 54; refine hc.mono ?_)
    first | rintro e W1 rfl hw hf | rintro e W1 ⟨rfl, hw, hf⟩
    have HW := Lib.hid hw
    have HF := Lib.hid hf
    clear hw hf hc
    go_wp2_with fail
    go_loopw [15] (fun i wr => ∃ (k : Nat) (t : Wst), k ≤ l ∧ i = .int .i64 k ∧ WAt wr B b t ∧ Fr 64 5 B W wr ∧ t.bs.length ≤ s.bs.length + 4 + k * g ∧ wGo cTable.w (xs.drop k) t = R) (fun i _ => l - (intOf i).toNat)
    case atStart => exact ⟨0, _, Nat.zero_le _, rfl, HW.out, HF.out, by simp [be_len], by rw [List.drop_zero]; exact HRES.out⟩
    case round =>
      clear HW
      obtain ⟨k, t, hk, rfl, hw, hf, hlen, hgo⟩ := hrel
      have HLEN := Lib.hid hlen
      have HGO := Lib.hid hgo
      obtain ⟨b1, b2, b3⟩ := hw.cells
      have HW := Lib.hid hw
      have HFR := Lib.hid hf
      clear hw hf hlen hgo
      by_cases hlt : k < l
      · obtain ⟨bb, o, x, vs, rfl, hbb, hx, hC, hI⟩ := (kept_row HR.out HFR.out).item hlt
        have i0 : (k : Int) < (l : Int) := by omega
        have i1 : (0 : Int) ≤ (k : Int) := by omega
        have HI := Lib.hid hI
        obtain ⟨a1, l1, c1, rfl, h1⟩ := table_is.1 hI
        have e0 : wr.cell? ⟨bb, o + k * 2, none⟩ = some (.int .i64 x.face) := hC 0 _ rfl
        have e1 : wr.cell? ⟨bb, o + k * 2 + 1, none⟩ = some (.slice a1 l1 c1) := hC 1 _ rfl
        have b1a : (wr.alloc (.cells [(.int .i64 x.face), (.slice a1 l1 c1)].toArray 58)).cell? ⟨b, 1, none⟩ = some (.bool t.full) := (HW.out.alloc _).cells.1
        have HX := Lib.hid hx
        have HBB := Lib.hid hbb
        clear hC hI hx hbb h1
        cases hfull : t.full with
        | true =>
          rw [hfull] at b1 b1a
          have HFL := Lib.hid hfull
          clear hfull
          go_wp2_with fail
          go_returns
          refine ⟨rfl, ?_, HFR.out.alloc (Nat.le_trans hB HFR.out.size) _⟩
          rw [← HGO.out, wGo_stop HFL.out]
          exact (HW.out.alloc _)
        | false =>
          rw [hfull] at b1 b1a
          have hgl := HLG.out
          have hkg : k * g + g ≤ l * g := by rw [← Nat.succ_mul]; exact le_prod (by omega)
          have hHc := H B b t [(.int .i64 x.face), (.slice a1 l1 c1)] x (wr.alloc (.cells [(.int .i64 x.face), (.slice a1 l1 c1)].toArray 58)) (shTable.keep (fun k hk => Below.heap_alloc _ _ _ (Nat.lt_of_lt_of_le hk (Nat.le_trans hB HFR.out.size))) HI.out) (HW.out.alloc _) (by have := HLEN.out; omega) (by have := HFR.out.size; simp; omega)
          have HFL := Lib.hid hfull
          have HKG := Lib.hid hkg
          clear hfull hgl hkg
          go_wp2_with (go_at_call 92; refine hHc.mono ?_)
          first | rintro e W2 rfl hw2 hf2 | rintro e W2 ⟨rfl, hw2, hf2⟩
          have HW2 := Lib.hid hw2
          have HF2 := Lib.hid hf2
          clear hw2 hf2 hHc
          go_wp2_with fail
          refine ⟨⟨k + 1, cTable.w x t, by omega, by go_num, HW2.out, (HFR.out.alloc (Nat.le_trans hB HFR.out.size) _).trans HF2.out, ?_, ?_⟩, by simp [intOf]; omega⟩
          · have h1 := hg x t
            have h2 := HLEN.out
            rw [Nat.succ_mul]
            omega
          · rw [← HGO.out, wGo_next HX.out HFL.out]
      · obtain rfl : k = l := by omega
        have HEND := Lib.hid (show t = R by rw [← HGO.out, List.drop_of_length_le (by rw [HR.out.1]; exact Nat.le_refl _)]; rfl)
        go_wp2_with fail
        go_returns
        exact ⟨rfl, by rw [← HEND.out]; exact HW.out, HFR.out⟩

set_option maxHeartbeats 1600000 in
set_option maxRecDepth 100000 in
theorem listOps (g : Nat) (H : Wr 95 mkA shOp cOp g) (hg : Grow cOp g) (B b : Nat) (s : Wst) (a : Option Addr) (l cap : Nat) (xs : List OpD) (W : World) (hr : Row shOp (fun k => k < B) W a l xs) (h : WAt W B b s) (hs : s.bs.length + (4 + 10000 * g) ≤ 100000000000000) (hB : B ≤ W.heap.size) :
    Calls Tryz.prog 94 #[.pointer (some ⟨b, 0, none⟩), .slice a l cap, .func (.func 95) #[] #[]] W fun e W' => e = .returned (.tuple #[]) ∧ WAt W' B b ((cList cOp).w xs s) ∧ Fr 64 5 B W W' := by
  have hc := count_any l B b s (by omega) W hB h
  show Calls _ _ _ _ fun e W' => e = .returned (.tuple #[]) ∧ WAt W' B b (wList cOp.w xs s) ∧ Fr 64 5 B W W'
  unfold wList
  rw [hr.1]
  by_cases hn : 10000 < l
  · rw [if_pos hn] at hc ⊢
    have d1 : decide (l ≤ 10000) = false := decide_eq_false (by omega)
    rw [d1] at hc
    clear h hn d1 hr
    go_enter Tryz.func94, Tryz.ntmps94
    go_wp2_with (go_at_call 54; refine hc.mono ?_)
    first | rintro e W1 rfl hw hf | rintro e W1 ⟨rfl, hw, hf⟩
    have HW := Lib.hid hw
    have HF := Lib.hid hf
    clear hw hf hc
    go_wp2_with fail
    go_returns
    exact ⟨rfl, HW.out, HF.out⟩
  · rw [if_neg hn] at hc ⊢
    have d1 : decide (l ≤ 10000) = true := decide_eq_true (by omega)
    rw [d1] at hc
    have HR := Lib.hid hr
    have hl0 : l ≤ 10000 := by omega
    have HLG := Lib.hid (le_prod (g := g) hl0)
    generalize hres : wGo cOp.w xs ⟨s.bs ++ be l, s.full⟩ = R
    have HRES := Lib.hid hres
    clear h hn d1 hr hres
    go_enter Tryz.func94, Tryz.ntmps94
    go_wp2_with (go_at_call 54; refine hc.mono ?_)
    first | rintro e W1 rfl hw hf | rintro e W1 ⟨rfl, hw, hf⟩
    have HW := Lib.hid hw
    have HF := Lib.hid hf
    clear hw hf hc
    go_wp2_with fail
    go_loopw [15] (fun i wr => ∃ (k : Nat) (t : Wst), k ≤ l ∧ i = .int .i64 k ∧ WAt wr B b t ∧ Fr 64 5 B W wr ∧ t.bs.length ≤ s.bs.length + 4 + k * g ∧ wGo cOp.w (xs.drop k) t = R) (fun i _ => l - (intOf i).toNat)
    case atStart => exact ⟨0, _, Nat.zero_le _, rfl, HW.out, HF.out, by simp [be_len], by rw [List.drop_zero]; exact HRES.out⟩
    case round =>
      clear HW
      obtain ⟨k, t, hk, rfl, hw, hf, hlen, hgo⟩ := hrel
      have HLEN := Lib.hid hlen
      have HGO := Lib.hid hgo
      obtain ⟨b1, b2, b3⟩ := hw.cells
      have HW := Lib.hid hw
      have HFR := Lib.hid hf
      clear hw hf hlen hgo
      by_cases hlt : k < l
      · obtain ⟨bb, o, x, vs, rfl, hbb, hx, hC, hI⟩ := (kept_row HR.out HFR.out).item hlt
        have i0 : (k : Int) < (l : Int) := by omega
        have i1 : (0 : Int) ≤ (k : Int) := by omega
        have HI := Lib.hid hI
        obtain rfl := op_is.1 hI
        have e0 : wr.cell? ⟨bb, o + k * 3, none⟩ = some (.int .i64 x.k) := hC 0 _ rfl
        have e1 : wr.cell? ⟨bb, o + k * 3 + 1, none⟩ = some (.int .i64 x.a) := hC 1 _ rfl
        have e2 : wr.cell? ⟨bb, o + k * 3 + 2, none⟩ = some (.int .i64 x.b) := hC 2 _ rfl
        have b1a : (wr.alloc (.cells [(.int .i64 x.k), (.int .i64 x.a), (.int .i64 x.b)].toArray 127)).cell? ⟨b, 1, none⟩ = some (.bool t.full) := (HW.out.alloc _).cells.1
        have HX := Lib.hid hx
        have HBB := Lib.hid hbb
        clear hC hI hx hbb 
        cases hfull : t.full with
        | true =>
          rw [hfull] at b1 b1a
          have HFL := Lib.hid hfull
          clear hfull
          go_wp2_with fail
          go_returns
          refine ⟨rfl, ?_, HFR.out.alloc (Nat.le_trans hB HFR.out.size) _⟩
          rw [← HGO.out, wGo_stop HFL.out]
          exact (HW.out.alloc _)
        | false =>
          rw [hfull] at b1 b1a
          have hgl := HLG.out
          have hkg : k * g + g ≤ l * g := by rw [← Nat.succ_mul]; exact le_prod (by omega)
          have hHc := H B b t [(.int .i64 x.k), (.int .i64 x.a), (.int .i64 x.b)] x (wr.alloc (.cells [(.int .i64 x.k), (.int .i64 x.a), (.int .i64 x.b)].toArray 127)) (shOp.keep (fun k hk => Below.heap_alloc _ _ _ (Nat.lt_of_lt_of_le hk (Nat.le_trans hB HFR.out.size))) HI.out) (HW.out.alloc _) (by have := HLEN.out; omega) (by have := HFR.out.size; simp; omega)
          have HFL := Lib.hid hfull
          have HKG := Lib.hid hkg
          clear hfull hgl hkg
          go_wp2_with (go_at_call 95; refine hHc.mono ?_)
          first | rintro e W2 rfl hw2 hf2 | rintro e W2 ⟨rfl, hw2, hf2⟩
          have HW2 := Lib.hid hw2
          have HF2 := Lib.hid hf2
          clear hw2 hf2 hHc
          go_wp2_with fail
          refine ⟨⟨k + 1, cOp.w x t, by omega, by go_num, HW2.out, (HFR.out.alloc (Nat.le_trans hB HFR.out.size) _).trans HF2.out, ?_, ?_⟩, by simp [intOf]; omega⟩
          · have h1 := hg x t
            have h2 := HLEN.out
            rw [Nat.succ_mul]
            omega
          · rw [← HGO.out, wGo_next HX.out HFL.out]
      · obtain rfl : k = l := by omega
        have HEND := Lib.hid (show t = R by rw [← HGO.out, List.drop_of_length_le (by rw [HR.out.1]; exact Nat.le_refl _)]; rfl)
        go_wp2_with fail
        go_returns
        exact ⟨rfl, by rw [← HEND.out]; exact HW.out, HFR.out⟩

set_option maxHeartbeats 1600000 in
set_option maxRecDepth 100000 in
theorem listLinks (g : Nat) (H : Wr 64 mkA shLink cLink g) (hg : Grow cLink g) (B b : Nat) (s : Wst) (a : Option Addr) (l cap : Nat) (xs : List LinkD) (W : World) (hr : Row shLink (fun k => k < B) W a l xs) (h : WAt W B b s) (hs : s.bs.length + (4 + 10000 * g) ≤ 100000000000000) (hB : B ≤ W.heap.size) :
    Calls Tryz.prog 63 #[.pointer (some ⟨b, 0, none⟩), .slice a l cap, .func (.func 64) #[] #[]] W fun e W' => e = .returned (.tuple #[]) ∧ WAt W' B b ((cList cLink).w xs s) ∧ Fr 64 5 B W W' := by
  have hc := count_any l B b s (by omega) W hB h
  show Calls _ _ _ _ fun e W' => e = .returned (.tuple #[]) ∧ WAt W' B b (wList cLink.w xs s) ∧ Fr 64 5 B W W'
  unfold wList
  rw [hr.1]
  by_cases hn : 10000 < l
  · rw [if_pos hn] at hc ⊢
    have d1 : decide (l ≤ 10000) = false := decide_eq_false (by omega)
    rw [d1] at hc
    clear h hn d1 hr
    go_enter Tryz.func63, Tryz.ntmps63
    go_wp2_with (go_at_call 54; refine hc.mono ?_)
    first | rintro e W1 rfl hw hf | rintro e W1 ⟨rfl, hw, hf⟩
    have HW := Lib.hid hw
    have HF := Lib.hid hf
    clear hw hf hc
    go_wp2_with fail
    go_returns
    exact ⟨rfl, HW.out, HF.out⟩
  · rw [if_neg hn] at hc ⊢
    have d1 : decide (l ≤ 10000) = true := decide_eq_true (by omega)
    rw [d1] at hc
    have HR := Lib.hid hr
    have hl0 : l ≤ 10000 := by omega
    have HLG := Lib.hid (le_prod (g := g) hl0)
    generalize hres : wGo cLink.w xs ⟨s.bs ++ be l, s.full⟩ = R
    have HRES := Lib.hid hres
    clear h hn d1 hr hres
    go_enter Tryz.func63, Tryz.ntmps63
    go_wp2_with (go_at_call 54; refine hc.mono ?_)
    first | rintro e W1 rfl hw hf | rintro e W1 ⟨rfl, hw, hf⟩
    have HW := Lib.hid hw
    have HF := Lib.hid hf
    clear hw hf hc
    go_wp2_with fail
    go_loopw [15] (fun i wr => ∃ (k : Nat) (t : Wst), k ≤ l ∧ i = .int .i64 k ∧ WAt wr B b t ∧ Fr 64 5 B W wr ∧ t.bs.length ≤ s.bs.length + 4 + k * g ∧ wGo cLink.w (xs.drop k) t = R) (fun i _ => l - (intOf i).toNat)
    case atStart => exact ⟨0, _, Nat.zero_le _, rfl, HW.out, HF.out, by simp [be_len], by rw [List.drop_zero]; exact HRES.out⟩
    case round =>
      clear HW
      obtain ⟨k, t, hk, rfl, hw, hf, hlen, hgo⟩ := hrel
      have HLEN := Lib.hid hlen
      have HGO := Lib.hid hgo
      obtain ⟨b1, b2, b3⟩ := hw.cells
      have HW := Lib.hid hw
      have HFR := Lib.hid hf
      clear hw hf hlen hgo
      by_cases hlt : k < l
      · obtain ⟨bb, o, x, vs, rfl, hbb, hx, hC, hI⟩ := (kept_row HR.out HFR.out).item hlt
        have i0 : (k : Int) < (l : Int) := by omega
        have i1 : (0 : Int) ≤ (k : Int) := by omega
        have HI := Lib.hid hI
        obtain rfl := link_is.1 hI
        have e0 : wr.cell? ⟨bb, o + k * 3, none⟩ = some (.int .i64 x.g) := hC 0 _ rfl
        have e1 : wr.cell? ⟨bb, o + k * 3 + 1, none⟩ = some (.int .i64 x.s) := hC 1 _ rfl
        have e2 : wr.cell? ⟨bb, o + k * 3 + 2, none⟩ = some (.bool x.b) := hC 2 _ rfl
        have b1a : (wr.alloc (.cells [(.int .i64 x.g), (.int .i64 x.s), (.bool x.b)].toArray 90)).cell? ⟨b, 1, none⟩ = some (.bool t.full) := (HW.out.alloc _).cells.1
        have HX := Lib.hid hx
        have HBB := Lib.hid hbb
        clear hC hI hx hbb 
        cases hfull : t.full with
        | true =>
          rw [hfull] at b1 b1a
          have HFL := Lib.hid hfull
          clear hfull
          go_wp2_with fail
          go_returns
          refine ⟨rfl, ?_, HFR.out.alloc (Nat.le_trans hB HFR.out.size) _⟩
          rw [← HGO.out, wGo_stop HFL.out]
          exact (HW.out.alloc _)
        | false =>
          rw [hfull] at b1 b1a
          have hgl := HLG.out
          have hkg : k * g + g ≤ l * g := by rw [← Nat.succ_mul]; exact le_prod (by omega)
          have hHc := H B b t [(.int .i64 x.g), (.int .i64 x.s), (.bool x.b)] x (wr.alloc (.cells [(.int .i64 x.g), (.int .i64 x.s), (.bool x.b)].toArray 90)) (shLink.keep (fun k hk => Below.heap_alloc _ _ _ (Nat.lt_of_lt_of_le hk (Nat.le_trans hB HFR.out.size))) HI.out) (HW.out.alloc _) (by have := HLEN.out; omega) (by have := HFR.out.size; simp; omega)
          have HFL := Lib.hid hfull
          have HKG := Lib.hid hkg
          clear hfull hgl hkg
          go_wp2_with (go_at_call 64; refine hHc.mono ?_)
          first | rintro e W2 rfl hw2 hf2 | rintro e W2 ⟨rfl, hw2, hf2⟩
          have HW2 := Lib.hid hw2
          have HF2 := Lib.hid hf2
          clear hw2 hf2 hHc
          go_wp2_with fail
          refine ⟨⟨k + 1, cLink.w x t, by omega, by go_num, HW2.out, (HFR.out.alloc (Nat.le_trans hB HFR.out.size) _).trans HF2.out, ?_, ?_⟩, by simp [intOf]; omega⟩
          · have h1 := hg x t
            have h2 := HLEN.out
            rw [Nat.succ_mul]
            omega
          · rw [← HGO.out, wGo_next HX.out HFL.out]
      · obtain rfl : k = l := by omega
        have HEND := Lib.hid (show t = R by rw [← HGO.out, List.drop_of_length_le (by rw [HR.out.1]; exact Nat.le_refl _)]; rfl)
        go_wp2_with fail
        go_returns
        exact ⟨rfl, by rw [← HEND.out]; exact HW.out, HFR.out⟩

set_option maxHeartbeats 1600000 in
set_option maxRecDepth 100000 in
theorem listJobs (g : Nat) (H : Wr 66 mkA shJob cJob g) (hg : Grow cJob g) (B b : Nat) (s : Wst) (a : Option Addr) (l cap : Nat) (xs : List JobD) (W : World) (hr : Row shJob (fun k => k < B) W a l xs) (h : WAt W B b s) (hs : s.bs.length + (4 + 10000 * g) ≤ 100000000000000) (hB : B ≤ W.heap.size) :
    Calls Tryz.prog 65 #[.pointer (some ⟨b, 0, none⟩), .slice a l cap, .func (.func 66) #[] #[]] W fun e W' => e = .returned (.tuple #[]) ∧ WAt W' B b ((cList cJob).w xs s) ∧ Fr 64 5 B W W' := by
  have hc := count_any l B b s (by omega) W hB h
  show Calls _ _ _ _ fun e W' => e = .returned (.tuple #[]) ∧ WAt W' B b (wList cJob.w xs s) ∧ Fr 64 5 B W W'
  unfold wList
  rw [hr.1]
  by_cases hn : 10000 < l
  · rw [if_pos hn] at hc ⊢
    have d1 : decide (l ≤ 10000) = false := decide_eq_false (by omega)
    rw [d1] at hc
    clear h hn d1 hr
    go_enter Tryz.func65, Tryz.ntmps65
    go_wp2_with (go_at_call 54; refine hc.mono ?_)
    first | rintro e W1 rfl hw hf | rintro e W1 ⟨rfl, hw, hf⟩
    have HW := Lib.hid hw
    have HF := Lib.hid hf
    clear hw hf hc
    go_wp2_with fail
    go_returns
    exact ⟨rfl, HW.out, HF.out⟩
  · rw [if_neg hn] at hc ⊢
    have d1 : decide (l ≤ 10000) = true := decide_eq_true (by omega)
    rw [d1] at hc
    have HR := Lib.hid hr
    have hl0 : l ≤ 10000 := by omega
    have HLG := Lib.hid (le_prod (g := g) hl0)
    generalize hres : wGo cJob.w xs ⟨s.bs ++ be l, s.full⟩ = R
    have HRES := Lib.hid hres
    clear h hn d1 hr hres
    go_enter Tryz.func65, Tryz.ntmps65
    go_wp2_with (go_at_call 54; refine hc.mono ?_)
    first | rintro e W1 rfl hw hf | rintro e W1 ⟨rfl, hw, hf⟩
    have HW := Lib.hid hw
    have HF := Lib.hid hf
    clear hw hf hc
    go_wp2_with fail
    go_loopw [15] (fun i wr => ∃ (k : Nat) (t : Wst), k ≤ l ∧ i = .int .i64 k ∧ WAt wr B b t ∧ Fr 64 5 B W wr ∧ t.bs.length ≤ s.bs.length + 4 + k * g ∧ wGo cJob.w (xs.drop k) t = R) (fun i _ => l - (intOf i).toNat)
    case atStart => exact ⟨0, _, Nat.zero_le _, rfl, HW.out, HF.out, by simp [be_len], by rw [List.drop_zero]; exact HRES.out⟩
    case round =>
      clear HW
      obtain ⟨k, t, hk, rfl, hw, hf, hlen, hgo⟩ := hrel
      have HLEN := Lib.hid hlen
      have HGO := Lib.hid hgo
      obtain ⟨b1, b2, b3⟩ := hw.cells
      have HW := Lib.hid hw
      have HFR := Lib.hid hf
      clear hw hf hlen hgo
      by_cases hlt : k < l
      · obtain ⟨bb, o, x, vs, rfl, hbb, hx, hC, hI⟩ := (kept_row HR.out HFR.out).item hlt
        have i0 : (k : Int) < (l : Int) := by omega
        have i1 : (0 : Int) ≤ (k : Int) := by omega
        have HI := Lib.hid hI
        obtain rfl := job_is.1 hI
        have e0 : wr.cell? ⟨bb, o + k * 3, none⟩ = some (.int .i64 x.c) := hC 0 _ rfl
        have e1 : wr.cell? ⟨bb, o + k * 3 + 1, none⟩ = some (.int .i64 x.e) := hC 1 _ rfl
        have e2 : wr.cell? ⟨bb, o + k * 3 + 2, none⟩ = some (.int .i64 x.f) := hC 2 _ rfl
        have b1a : (wr.alloc (.cells [(.int .i64 x.c), (.int .i64 x.e), (.int .i64 x.f)].toArray 78)).cell? ⟨b, 1, none⟩ = some (.bool t.full) := (HW.out.alloc _).cells.1
        have HX := Lib.hid hx
        have HBB := Lib.hid hbb
        clear hC hI hx hbb 
        cases hfull : t.full with
        | true =>
          rw [hfull] at b1 b1a
          have HFL := Lib.hid hfull
          clear hfull
          go_wp2_with fail
          go_returns
          refine ⟨rfl, ?_, HFR.out.alloc (Nat.le_trans hB HFR.out.size) _⟩
          rw [← HGO.out, wGo_stop HFL.out]
          exact (HW.out.alloc _)
        | false =>
          rw [hfull] at b1 b1a
          have hgl := HLG.out
          have hkg : k * g + g ≤ l * g := by rw [← Nat.succ_mul]; exact le_prod (by omega)
          have hHc := H B b t [(.int .i64 x.c), (.int .i64 x.e), (.int .i64 x.f)] x (wr.alloc (.cells [(.int .i64 x.c), (.int .i64 x.e), (.int .i64 x.f)].toArray 78)) (shJob.keep (fun k hk => Below.heap_alloc _ _ _ (Nat.lt_of_lt_of_le hk (Nat.le_trans hB HFR.out.size))) HI.out) (HW.out.alloc _) (by have := HLEN.out; omega) (by have := HFR.out.size; simp; omega)
          have HFL := Lib.hid hfull
          have HKG := Lib.hid hkg
          clear hfull hgl hkg
          go_wp2_with (go_at_call 66; refine hHc.mono ?_)
          first | rintro e W2 rfl hw2 hf2 | rintro e W2 ⟨rfl, hw2, hf2⟩
          have HW2 := Lib.hid hw2
          have HF2 := Lib.hid hf2
          clear hw2 hf2 hHc
          go_wp2_with fail
          refine ⟨⟨k + 1, cJob.w x t, by omega, by go_num, HW2.out, (HFR.out.alloc (Nat.le_trans hB HFR.out.size) _).trans HF2.out, ?_, ?_⟩, by simp [intOf]; omega⟩
          · have h1 := hg x t
            have h2 := HLEN.out
            rw [Nat.succ_mul]
            omega
          · rw [← HGO.out, wGo_next HX.out HFL.out]
      · obtain rfl : k = l := by omega
        have HEND := Lib.hid (show t = R by rw [← HGO.out, List.drop_of_length_le (by rw [HR.out.1]; exact Nat.le_refl _)]; rfl)
        go_wp2_with fail
        go_returns
        exact ⟨rfl, by rw [← HEND.out]; exact HW.out, HFR.out⟩

set_option maxHeartbeats 1600000 in
set_option maxRecDepth 100000 in
theorem listDescs (g : Nat) (H : Wr 59 mkA shDesc cDesc g) (hg : Grow cDesc g) (B b : Nat) (s : Wst) (a : Option Addr) (l cap : Nat) (xs : List DescD) (W : World) (hr : Row shDesc (fun k => k < B) W a l xs) (h : WAt W B b s) (hs : s.bs.length + (4 + 10000 * g) ≤ 100000000000000) (hB : B ≤ W.heap.size) :
    Calls Tryz.prog 58 #[.pointer (some ⟨b, 0, none⟩), .slice a l cap, .func (.func 59) #[] #[]] W fun e W' => e = .returned (.tuple #[]) ∧ WAt W' B b ((cList cDesc).w xs s) ∧ Fr 64 5 B W W' := by
  have hc := count_any l B b s (by omega) W hB h
  show Calls _ _ _ _ fun e W' => e = .returned (.tuple #[]) ∧ WAt W' B b (wList cDesc.w xs s) ∧ Fr 64 5 B W W'
  unfold wList
  rw [hr.1]
  by_cases hn : 10000 < l
  · rw [if_pos hn] at hc ⊢
    have d1 : decide (l ≤ 10000) = false := decide_eq_false (by omega)
    rw [d1] at hc
    clear h hn d1 hr
    go_enter Tryz.func58, Tryz.ntmps58
    go_wp2_with (go_at_call 54; refine hc.mono ?_)
    first | rintro e W1 rfl hw hf | rintro e W1 ⟨rfl, hw, hf⟩
    have HW := Lib.hid hw
    have HF := Lib.hid hf
    clear hw hf hc
    go_wp2_with fail
    go_returns
    exact ⟨rfl, HW.out, HF.out⟩
  · rw [if_neg hn] at hc ⊢
    have d1 : decide (l ≤ 10000) = true := decide_eq_true (by omega)
    rw [d1] at hc
    have HR := Lib.hid hr
    have hl0 : l ≤ 10000 := by omega
    have HLG := Lib.hid (le_prod (g := g) hl0)
    generalize hres : wGo cDesc.w xs ⟨s.bs ++ be l, s.full⟩ = R
    have HRES := Lib.hid hres
    clear h hn d1 hr hres
    go_enter Tryz.func58, Tryz.ntmps58
    go_wp2_with (go_at_call 54; refine hc.mono ?_)
    first | rintro e W1 rfl hw hf | rintro e W1 ⟨rfl, hw, hf⟩
    have HW := Lib.hid hw
    have HF := Lib.hid hf
    clear hw hf hc
    go_wp2_with fail
    go_loopw [15] (fun i wr => ∃ (k : Nat) (t : Wst), k ≤ l ∧ i = .int .i64 k ∧ WAt wr B b t ∧ Fr 64 5 B W wr ∧ t.bs.length ≤ s.bs.length + 4 + k * g ∧ wGo cDesc.w (xs.drop k) t = R) (fun i _ => l - (intOf i).toNat)
    case atStart => exact ⟨0, _, Nat.zero_le _, rfl, HW.out, HF.out, by simp [be_len], by rw [List.drop_zero]; exact HRES.out⟩
    case round =>
      clear HW
      obtain ⟨k, t, hk, rfl, hw, hf, hlen, hgo⟩ := hrel
      have HLEN := Lib.hid hlen
      have HGO := Lib.hid hgo
      obtain ⟨b1, b2, b3⟩ := hw.cells
      have HW := Lib.hid hw
      have HFR := Lib.hid hf
      clear hw hf hlen hgo
      by_cases hlt : k < l
      · obtain ⟨bb, o, x, vs, rfl, hbb, hx, hC, hI⟩ := (kept_row HR.out HFR.out).item hlt
        have i0 : (k : Int) < (l : Int) := by omega
        have i1 : (0 : Int) ≤ (k : Int) := by omega
        have HI := Lib.hid hI
        obtain ⟨a2, l2, c2, a3, l3, c3, a4, l4, c4, a5, l5, c5, rfl, h2, h3, h4, h5⟩ := desc_is.1 hI
        have e0 : wr.cell? ⟨bb, o + k * 6, none⟩ = some (.int .i64 x.base) := hC 0 _ rfl
        have e1 : wr.cell? ⟨bb, o + k * 6 + 1, none⟩ = some (.string x.fields) := hC 1 _ rfl
        have e2 : wr.cell? ⟨bb, o + k * 6 + 2, none⟩ = some (.slice a2 l2 c2) := hC 2 _ rfl
        have e3 : wr.cell? ⟨bb, o + k * 6 + 3, none⟩ = some (.slice a3 l3 c3) := hC 3 _ rfl
        have e4 : wr.cell? ⟨bb, o + k * 6 + 4, none⟩ = some (.slice a4 l4 c4) := hC 4 _ rfl
        have e5 : wr.cell? ⟨bb, o + k * 6 + 5, none⟩ = some (.slice a5 l5 c5) := hC 5 _ rfl
        have b1a : (wr.alloc (.cells [(.int .i64 x.base), (.string x.fields), (.slice a2 l2 c2), (.slice a3 l3 c3), (.slice a4 l4 c4), (.slice a5 l5 c5)].toArray 56)).cell? ⟨b, 1, none⟩ = some (.bool t.full) := (HW.out.alloc _).cells.1
        have HX := Lib.hid hx
        have HBB := Lib.hid hbb
        clear hC hI hx hbb h2 h3 h4 h5
        cases hfull : t.full with
        | true =>
          rw [hfull] at b1 b1a
          have HFL := Lib.hid hfull
          clear hfull
          go_wp2_with fail
          go_returns
          refine ⟨rfl, ?_, HFR.out.alloc (Nat.le_trans hB HFR.out.size) _⟩
          rw [← HGO.out, wGo_stop HFL.out]
          exact (HW.out.alloc _)
        | false =>
          rw [hfull] at b1 b1a
          have hgl := HLG.out
          have hkg : k * g + g ≤ l * g := by rw [← Nat.succ_mul]; exact le_prod (by omega)
          have hHc := H B b t [(.int .i64 x.base), (.string x.fields), (.slice a2 l2 c2), (.slice a3 l3 c3), (.slice a4 l4 c4), (.slice a5 l5 c5)] x (wr.alloc (.cells [(.int .i64 x.base), (.string x.fields), (.slice a2 l2 c2), (.slice a3 l3 c3), (.slice a4 l4 c4), (.slice a5 l5 c5)].toArray 56)) (shDesc.keep (fun k hk => Below.heap_alloc _ _ _ (Nat.lt_of_lt_of_le hk (Nat.le_trans hB HFR.out.size))) HI.out) (HW.out.alloc _) (by have := HLEN.out; omega) (by have := HFR.out.size; simp; omega)
          have HFL := Lib.hid hfull
          have HKG := Lib.hid hkg
          clear hfull hgl hkg
          go_wp2_with (go_at_call 59; refine hHc.mono ?_)
          first | rintro e W2 rfl hw2 hf2 | rintro e W2 ⟨rfl, hw2, hf2⟩
          have HW2 := Lib.hid hw2
          have HF2 := Lib.hid hf2
          clear hw2 hf2 hHc
          go_wp2_with fail
          refine ⟨⟨k + 1, cDesc.w x t, by omega, by go_num, HW2.out, (HFR.out.alloc (Nat.le_trans hB HFR.out.size) _).trans HF2.out, ?_, ?_⟩, by simp [intOf]; omega⟩
          · have h1 := hg x t
            have h2 := HLEN.out
            rw [Nat.succ_mul]
            omega
          · rw [← HGO.out, wGo_next HX.out HFL.out]
      · obtain rfl : k = l := by omega
        have HEND := Lib.hid (show t = R by rw [← HGO.out, List.drop_of_length_le (by rw [HR.out.1]; exact Nat.le_refl _)]; rfl)
        go_wp2_with fail
        go_returns
        exact ⟨rfl, by rw [← HEND.out]; exact HW.out, HFR.out⟩

set_option maxHeartbeats 1600000 in
set_option maxRecDepth 100000 in
theorem listCodes (g : Nat) (H : Wr 61 mkA shCode cCode g) (hg : Grow cCode g) (B b : Nat) (s : Wst) (a : Option Addr) (l cap : Nat) (xs : List CodeD) (W : World) (hr : Row shCode (fun k => k < B) W a l xs) (h : WAt W B b s) (hs : s.bs.length + (4 + 10000 * g) ≤ 100000000000000) (hB : B ≤ W.heap.size) :
    Calls Tryz.prog 60 #[.pointer (some ⟨b, 0, none⟩), .slice a l cap, .func (.func 61) #[] #[]] W fun e W' => e = .returned (.tuple #[]) ∧ WAt W' B b ((cList cCode).w xs s) ∧ Fr 64 5 B W W' := by
  have hc := count_any l B b s (by omega) W hB h
  show Calls _ _ _ _ fun e W' => e = .returned (.tuple #[]) ∧ WAt W' B b (wList cCode.w xs s) ∧ Fr 64 5 B W W'
  unfold wList
  rw [hr.1]
  by_cases hn : 10000 < l
  · rw [if_pos hn] at hc ⊢
    have d1 : decide (l ≤ 10000) = false := decide_eq_false (by omega)
    rw [d1] at hc
    clear h hn d1 hr
    go_enter Tryz.func60, Tryz.ntmps60
    go_wp2_with (go_at_call 54; refine hc.mono ?_)
    first | rintro e W1 rfl hw hf | rintro e W1 ⟨rfl, hw, hf⟩
    have HW := Lib.hid hw
    have HF := Lib.hid hf
    clear hw hf hc
    go_wp2_with fail
    go_returns
    exact ⟨rfl, HW.out, HF.out⟩
  · rw [if_neg hn] at hc ⊢
    have d1 : decide (l ≤ 10000) = true := decide_eq_true (by omega)
    rw [d1] at hc
    have HR := Lib.hid hr
    have hl0 : l ≤ 10000 := by omega
    have HLG := Lib.hid (le_prod (g := g) hl0)
    generalize hres : wGo cCode.w xs ⟨s.bs ++ be l, s.full⟩ = R
    have HRES := Lib.hid hres
    clear h hn d1 hr hres
    go_enter Tryz.func60, Tryz.ntmps60
    go_wp2_with (go_at_call 54; refine hc.mono ?_)
    first | rintro e W1 rfl hw hf | rintro e W1 ⟨rfl, hw, hf⟩
    have HW := Lib.hid hw
    have HF := Lib.hid hf
    clear hw hf hc
    go_wp2_with fail
    go_loopw [15] (fun i wr => ∃ (k : Nat) (t : Wst), k ≤ l ∧ i = .int .i64 k ∧ WAt wr B b t ∧ Fr 64 5 B W wr ∧ t.bs.length ≤ s.bs.length + 4 + k * g ∧ wGo cCode.w (xs.drop k) t = R) (fun i _ => l - (intOf i).toNat)
    case atStart => exact ⟨0, _, Nat.zero_le _, rfl, HW.out, HF.out, by simp [be_len], by rw [List.drop_zero]; exact HRES.out⟩
    case round =>
      clear HW
      obtain ⟨k, t, hk, rfl, hw, hf, hlen, hgo⟩ := hrel
      have HLEN := Lib.hid hlen
      have HGO := Lib.hid hgo
      obtain ⟨b1, b2, b3⟩ := hw.cells
      have HW := Lib.hid hw
      have HFR := Lib.hid hf
      clear hw hf hlen hgo
      by_cases hlt : k < l
      · obtain ⟨bb, o, x, vs, rfl, hbb, hx, hC, hI⟩ := (kept_row HR.out HFR.out).item hlt
        have i0 : (k : Int) < (l : Int) := by omega
        have i1 : (0 : Int) ≤ (k : Int) := by omega
        have HI := Lib.hid hI
        obtain ⟨a5, l5, c5, rfl, h5⟩ := code_is.1 hI
        have e0 : wr.cell? ⟨bb, o + k * 6, none⟩ = some (.int .i64 x.cls) := hC 0 _ rfl
        have e1 : wr.cell? ⟨bb, o + k * 6 + 1, none⟩ = some (.string x.params) := hC 1 _ rfl
        have e2 : wr.cell? ⟨bb, o + k * 6 + 2, none⟩ = some (.string x.locals) := hC 2 _ rfl
        have e3 : wr.cell? ⟨bb, o + k * 6 + 3, none⟩ = some (.bool x.ret) := hC 3 _ rfl
        have e4 : wr.cell? ⟨bb, o + k * 6 + 4, none⟩ = some (.int .i64 x.stack) := hC 4 _ rfl
        have e5 : wr.cell? ⟨bb, o + k * 6 + 5, none⟩ = some (.slice a5 l5 c5) := hC 5 _ rfl
        have b1a : (wr.alloc (.cells [(.int .i64 x.cls), (.string x.params), (.string x.locals), (.bool x.ret), (.int .i64 x.stack), (.slice a5 l5 c5)].toArray 61)).cell? ⟨b, 1, none⟩ = some (.bool t.full) := (HW.out.alloc _).cells.1
        have HX := Lib.hid hx
        have HBB := Lib.hid hbb
        clear hC hI hx hbb h5
        cases hfull : t.full with
        | true =>
          rw [hfull] at b1 b1a
          have HFL := Lib.hid hfull
          clear hfull
          go_wp2_with fail
          go_returns
          refine ⟨rfl, ?_, HFR.out.alloc (Nat.le_trans hB HFR.out.size) _⟩
          rw [← HGO.out, wGo_stop HFL.out]
          exact (HW.out.alloc _)
        | false =>
          rw [hfull] at b1 b1a
          have hgl := HLG.out
          have hkg : k * g + g ≤ l * g := by rw [← Nat.succ_mul]; exact le_prod (by omega)
          have hHc := H B b t [(.int .i64 x.cls), (.string x.params), (.string x.locals), (.bool x.ret), (.int .i64 x.stack), (.slice a5 l5 c5)] x (wr.alloc (.cells [(.int .i64 x.cls), (.string x.params), (.string x.locals), (.bool x.ret), (.int .i64 x.stack), (.slice a5 l5 c5)].toArray 61)) (shCode.keep (fun k hk => Below.heap_alloc _ _ _ (Nat.lt_of_lt_of_le hk (Nat.le_trans hB HFR.out.size))) HI.out) (HW.out.alloc _) (by have := HLEN.out; omega) (by have := HFR.out.size; simp; omega)
          have HFL := Lib.hid hfull
          have HKG := Lib.hid hkg
          clear hfull hgl hkg
          go_wp2_with (go_at_call 61; refine hHc.mono ?_)
          first | rintro e W2 rfl hw2 hf2 | rintro e W2 ⟨rfl, hw2, hf2⟩
          have HW2 := Lib.hid hw2
          have HF2 := Lib.hid hf2
          clear hw2 hf2 hHc
          go_wp2_with fail
          refine ⟨⟨k + 1, cCode.w x t, by omega, by go_num, HW2.out, (HFR.out.alloc (Nat.le_trans hB HFR.out.size) _).trans HF2.out, ?_, ?_⟩, by simp [intOf]; omega⟩
          · have h1 := hg x t
            have h2 := HLEN.out
            rw [Nat.succ_mul]
            omega
          · rw [← HGO.out, wGo_next HX.out HFL.out]
      · obtain rfl : k = l := by omega
        have HEND := Lib.hid (show t = R by rw [← HGO.out, List.drop_of_length_le (by rw [HR.out.1]; exact Nat.le_refl _)]; rfl)
        go_wp2_with fail
        go_returns
        exact ⟨rfl, by rw [← HEND.out]; exact HW.out, HFR.out⟩
end Go.Proofs.YtoaohoeghlidaaaGreatDoor
