/-
  image.Same, whatever it is asked: lists.
-/
import Derived.Test.YtoaohoeghlidaaaGreatDoorNe
namespace Go.Proofs.YtoaohoeghlidaaaGreatDoor
open Go.ChangeShapes Go.WideShapes Go.ChangeAt Go.RowKit

/-- tells whether two are one -/
def Sm (f : Nat) (more : List Value) (mk : List Value → Value) {T : Type} (sh : Sh T) : Prop :=
  ∀ (lim : Nat) (W : World) (vs us : List Value) (x y : T), sh.Is (fun k => k < lim) W vs x → sh.Is (fun k => k < lim) W us y → lim ≤ W.heap.size →
    Calls Tryz.prog f (#[mk vs, mk us] ++ more.toArray) W fun e W' => (∃ β : Bool, e = .returned (.bool β) ∧ (β = true ↔ x = y)) ∧ Below W.heap.size W W'

set_option maxHeartbeats 1600000 in
set_option maxRecDepth 100000 in
theorem sm_ints : Sm 39 [] mk1 (shSlice shInt) := by
  intro lim W vs us xs ys h1 h2 hl
  obtain ⟨a, l, c, rfl, hr⟩ := slice_is.1 h1
  obtain ⟨a', l', c', rfl, hr'⟩ := slice_is.1 h2
  have HR := Lib.hid hr
  have HR' := Lib.hid hr'
  have hml : l ≤ 9223372036854775807 := by have := hr.le; unfold maxLen at this; omega
  clear h1 h2
  by_cases hnl : ¬ l = l'
  · have hll := hnl
    have hl2 : ((l : Int) != (l' : Int)) = true := by simp; omega
    have hne : xs ≠ ys := fun h => hll (by rw [← hr.1, ← hr'.1, h])
    clear hr hr'
    show Calls Tryz.prog 39 #[.slice a l c, .slice a' l' c'] W _
    go_enter Tryz.func39, Tryz.ntmps39
    go_wp2_with fail
    go_returns
    exact ⟨⟨false, rfl, by simp [hne]⟩, Below.refl _ _⟩
  obtain rfl := Decidable.not_not.1 hnl
  clear hnl
  have hl2 : ((l : Int) != (l : Int)) = false := by simp
  have hlen := hr.1
  have hlen' := hr'.1
  clear hr hr'
  show Calls Tryz.prog 39 #[.slice a l c, .slice a' l c'] W _
  go_enter Tryz.func39, Tryz.ntmps39
  go_wp2_with fail
  go_loopw [13] (fun i wr => ∃ k m : Nat, k ≤ l ∧ i = .int .i64 k ∧ wr = W.drewN m ∧ (∀ j, j < k → xs[j]? = ys[j]?)) (fun i _ => l - (intOf i).toNat)
  case atStart => exact ⟨0, 0, Nat.zero_le _, rfl, rfl, fun j hj => absurd hj (Nat.not_lt_zero j)⟩
  case round =>
    obtain ⟨k, m, hk, rfl, hwr, hsame⟩ := hrel
    have HW := Lib.hid hwr
    have HSM := Lib.hid hsame
    clear hsame
    by_cases hlt : k < l
    · have hrA : Row shInt (fun k => k < lim) wr a l xs := by rw [hwr]; exact HR.out.keep (fun _ _ => rfl)
      have hrB : Row shInt (fun k => k < lim) wr a' l ys := by rw [hwr]; exact HR'.out.keep (fun _ _ => rfl)
      obtain ⟨ba, oa, x, vs, rfl, _, hx, hba, iA⟩ := hrA.item hlt
      obtain ⟨bb, ob, y, us, rfl, _, hx', hbb, iB⟩ := hrB.item hlt
      have i0 : (k : Int) < (l : Int) := by omega
      have i1 : (0 : Int) ≤ (k : Int) := by omega
      obtain rfl := int_is.1 iA
      obtain rfl := int_is.1 iB
      have e0 : wr.cell? ⟨ba, oa + k, none⟩ = some (.int .i64 x) := by have := hba 0 _ rfl; rw [show oa + k * shInt.n + 0 = oa + k by show oa + k * 1 + 0 = _; omega] at this; exact this
      have d0 : wr.cell? ⟨bb, ob + k, none⟩ = some (.int .i64 y) := by have := hbb 0 _ rfl; rw [show ob + k * shInt.n + 0 = ob + k by show ob + k * 1 + 0 = _; omega] at this; exact this
      have HXX := Lib.hid hx
      have HXY := Lib.hid hx'
      clear hba hbb hrA hrB hwr hx hx' iA iB
      by_cases hxy : x = y
      · subst hxy
        have b0 : (x != x) = false := by simp
        go_wp2_with fail
        go_quiet (fail)
        go_wp2_with fail
        refine ⟨⟨k + 1, m + nq, ?_, ?_, ?_, ?_⟩, ?_⟩
        · omega
        · go_num
        · rw [HW.out, World.drewN_drewN]
        · intro j hj
          rcases Nat.lt_or_ge j k with h | h
          · exact HSM.out j h
          · rw [show j = k by omega, HXX.out, HXY.out]
        · simp [intOf]; omega
      · have HNE := Lib.hid (show xs ≠ ys from fun h => hxy (by have := HXX.out; rw [h, HXY.out] at this; exact (Option.some.inj this).symm))
        have b0 : (x != y) = true := by simp [hxy]
        clear hxy
        go_wp2_with fail
        go_quiet (fail)
        go_wp2_with fail
        go_returns
        refine ⟨⟨false, rfl, by simp [HNE.out]⟩, ?_⟩
        rw [HW.out, World.drewN_drewN]
        exact below_drew (Below.refl _ _) _
    · have HEQ := Lib.hid (all_one (hlen.trans hlen'.symm) (fun j hj => HSM.out j (by omega)))
      clear hwr
      obtain rfl : k = l := by omega
      go_wp2_with fail
      go_returns
      refine ⟨⟨true, rfl, by simp [HEQ.out]⟩, ?_⟩
      rw [HW.out]
      exact below_drew (Below.refl _ _) _

set_option maxHeartbeats 1600000 in
set_option maxRecDepth 100000 in
theorem sm_texts : Sm 34 [] mk1 (shSlice shStr) := by
  intro lim W vs us xs ys h1 h2 hl
  obtain ⟨a, l, c, rfl, hr⟩ := slice_is.1 h1
  obtain ⟨a', l', c', rfl, hr'⟩ := slice_is.1 h2
  have HR := Lib.hid hr
  have HR' := Lib.hid hr'
  have hml : l ≤ 9223372036854775807 := by have := hr.le; unfold maxLen at this; omega
  clear h1 h2
  by_cases hnl : ¬ l = l'
  · have hll := hnl
    have hl2 : ((l : Int) != (l' : Int)) = true := by simp; omega
    have hne : xs ≠ ys := fun h => hll (by rw [← hr.1, ← hr'.1, h])
    clear hr hr'
    show Calls Tryz.prog 34 #[.slice a l c, .slice a' l' c'] W _
    go_enter Tryz.func34, Tryz.ntmps34
    go_wp2_with fail
    go_returns
    exact ⟨⟨false, rfl, by simp [hne]⟩, Below.refl _ _⟩
  obtain rfl := Decidable.not_not.1 hnl
  clear hnl
  have hl2 : ((l : Int) != (l : Int)) = false := by simp
  have hlen := hr.1
  have hlen' := hr'.1
  clear hr hr'
  show Calls Tryz.prog 34 #[.slice a l c, .slice a' l c'] W _
  go_enter Tryz.func34, Tryz.ntmps34
  go_wp2_with fail
  go_loopw [13] (fun i wr => ∃ k m : Nat, k ≤ l ∧ i = .int .i64 k ∧ wr = W.drewN m ∧ (∀ j, j < k → xs[j]? = ys[j]?)) (fun i _ => l - (intOf i).toNat)
  case atStart => exact ⟨0, 0, Nat.zero_le _, rfl, rfl, fun j hj => absurd hj (Nat.not_lt_zero j)⟩
  case round =>
    obtain ⟨k, m, hk, rfl, hwr, hsame⟩ := hrel
    have HW := Lib.hid hwr
    have HSM := Lib.hid hsame
    clear hsame
    by_cases hlt : k < l
    · have hrA : Row shStr (fun k => k < lim) wr a l xs := by rw [hwr]; exact HR.out.keep (fun _ _ => rfl)
      have hrB : Row shStr (fun k => k < lim) wr a' l ys := by rw [hwr]; exact HR'.out.keep (fun _ _ => rfl)
      obtain ⟨ba, oa, x, vs, rfl, _, hx, hba, iA⟩ := hrA.item hlt
      obtain ⟨bb, ob, y, us, rfl, _, hx', hbb, iB⟩ := hrB.item hlt
      have i0 : (k : Int) < (l : Int) := by omega
      have i1 : (0 : Int) ≤ (k : Int) := by omega
      obtain rfl := str_is.1 iA
      obtain rfl := str_is.1 iB
      have e0 : wr.cell? ⟨ba, oa + k, none⟩ = some (.string x) := by have := hba 0 _ rfl; rw [show oa + k * shStr.n + 0 = oa + k by show oa + k * 1 + 0 = _; omega] at this; exact this
      have d0 : wr.cell? ⟨bb, ob + k, none⟩ = some (.string y) := by have := hbb 0 _ rfl; rw [show ob + k * shStr.n + 0 = ob + k by show ob + k * 1 + 0 = _; omega] at this; exact this
      have HXX := Lib.hid hx
      have HXY := Lib.hid hx'
      clear hba hbb hrA hrB hwr hx hx' iA iB
      by_cases hxy : x = y
      · subst hxy
        go_wp2_with fail
        go_quiet (fail)
        go_wp2_with fail
        refine ⟨⟨k + 1, m + nq, ?_, ?_, ?_, ?_⟩, ?_⟩
        · omega
        · go_num
        · rw [HW.out, World.drewN_drewN]
        · intro j hj
          rcases Nat.lt_or_ge j k with h | h
          · exact HSM.out j h
          · rw [show j = k by omega, HXX.out, HXY.out]
        · simp [intOf]; omega
      · have HNE := Lib.hid (show xs ≠ ys from fun h => hxy (by have := HXX.out; rw [h, HXY.out] at this; exact (Option.some.inj this).symm))
        have b0 := str_ne hxy
        clear hxy
        go_wp2_with fail
        go_quiet (fail)
        go_wp2_with fail
        go_returns
        refine ⟨⟨false, rfl, by simp [HNE.out]⟩, ?_⟩
        rw [HW.out, World.drewN_drewN]
        exact below_drew (Below.refl _ _) _
    · have HEQ := Lib.hid (all_one (hlen.trans hlen'.symm) (fun j hj => HSM.out j (by omega)))
      clear hwr
      obtain rfl : k = l := by omega
      go_wp2_with fail
      go_returns
      refine ⟨⟨true, rfl, by simp [HEQ.out]⟩, ?_⟩
      rw [HW.out]
      exact below_drew (Below.refl _ _) _

set_option maxHeartbeats 1600000 in
set_option maxRecDepth 100000 in
theorem sm_links : Sm 40 [] mk1 (shSlice shLink) := by
  intro lim W vs us xs ys h1 h2 hl
  obtain ⟨a, l, c, rfl, hr⟩ := slice_is.1 h1
  obtain ⟨a', l', c', rfl, hr'⟩ := slice_is.1 h2
  have HR := Lib.hid hr
  have HR' := Lib.hid hr'
  have hml : l ≤ 9223372036854775807 := by have := hr.le; unfold maxLen at this; omega
  clear h1 h2
  by_cases hnl : ¬ l = l'
  · have hll := hnl
    have hl2 : ((l : Int) != (l' : Int)) = true := by simp; omega
    have hne : xs ≠ ys := fun h => hll (by rw [← hr.1, ← hr'.1, h])
    clear hr hr'
    show Calls Tryz.prog 40 #[.slice a l c, .slice a' l' c'] W _
    go_enter Tryz.func40, Tryz.ntmps40
    go_wp2_with fail
    go_returns
    exact ⟨⟨false, rfl, by simp [hne]⟩, Below.refl _ _⟩
  obtain rfl := Decidable.not_not.1 hnl
  clear hnl
  have hl2 : ((l : Int) != (l : Int)) = false := by simp
  have hlen := hr.1
  have hlen' := hr'.1
  clear hr hr'
  show Calls Tryz.prog 40 #[.slice a l c, .slice a' l c'] W _
  go_enter Tryz.func40, Tryz.ntmps40
  go_wp2_with fail
  go_loopw [13] (fun i wr => ∃ k m : Nat, k ≤ l ∧ i = .int .i64 k ∧ wr = W.drewN m ∧ (∀ j, j < k → xs[j]? = ys[j]?)) (fun i _ => l - (intOf i).toNat)
  case atStart => exact ⟨0, 0, Nat.zero_le _, rfl, rfl, fun j hj => absurd hj (Nat.not_lt_zero j)⟩
  case round =>
    obtain ⟨k, m, hk, rfl, hwr, hsame⟩ := hrel
    have HW := Lib.hid hwr
    have HSM := Lib.hid hsame
    clear hsame
    by_cases hlt : k < l
    · have hrA : Row shLink (fun k => k < lim) wr a l xs := by rw [hwr]; exact HR.out.keep (fun _ _ => rfl)
      have hrB : Row shLink (fun k => k < lim) wr a' l ys := by rw [hwr]; exact HR'.out.keep (fun _ _ => rfl)
      obtain ⟨ba, oa, x, vs, rfl, _, hx, hba, iA⟩ := hrA.item hlt
      obtain ⟨bb, ob, y, us, rfl, _, hx', hbb, iB⟩ := hrB.item hlt
      have i0 : (k : Int) < (l : Int) := by omega
      have i1 : (0 : Int) ≤ (k : Int) := by omega
      obtain rfl := link_is.1 iA
      obtain rfl := link_is.1 iB
      have e0 : wr.cell? ⟨ba, oa + k * 3, none⟩ = some (.int .i64 x.g) := hba 0 _ rfl
      have e1 : wr.cell? ⟨ba, oa + k * 3 + 1, none⟩ = some (.int .i64 x.s) := hba 1 _ rfl
      have e2 : wr.cell? ⟨ba, oa + k * 3 + 2, none⟩ = some (.bool x.b) := hba 2 _ rfl
      have d0 : wr.cell? ⟨bb, ob + k * 3, none⟩ = some (.int .i64 y.g) := hbb 0 _ rfl
      have d1 : wr.cell? ⟨bb, ob + k * 3 + 1, none⟩ = some (.int .i64 y.s) := hbb 1 _ rfl
      have d2 : wr.cell? ⟨bb, ob + k * 3 + 2, none⟩ = some (.bool y.b) := hbb 2 _ rfl
      have HXX := Lib.hid hx
      have HXY := Lib.hid hx'
      clear hba hbb hrA hrB hwr hx hx' iA iB
      by_cases hxy : x = y
      · subst hxy
        go_wp2_with fail
        go_quiet (fail)
        go_wp2_with fail
        refine ⟨⟨k + 1, m + nq, ?_, ?_, ?_, ?_⟩, ?_⟩
        · omega
        · go_num
        · rw [HW.out, World.drewN_drewN]
        · intro j hj
          rcases Nat.lt_or_ge j k with h | h
          · exact HSM.out j h
          · rw [show j = k by omega, HXX.out, HXY.out]
        · simp [intOf]; omega
      · by_cases f0 : x.g = y.g
        · by_cases f1 : x.s = y.s
          · by_cases f2 : x.b = y.b
            · exact absurd (by cases x; cases y; simp_all) hxy
            · have HNE := Lib.hid (show xs ≠ ys from fun h => hxy (by have := HXX.out; rw [h, HXY.out] at this; exact (Option.some.inj this).symm))
              clear hxy
              go_wp2_with fail
              go_quiet (fail)
              go_wp2_with fail
              go_returns
              refine ⟨⟨false, rfl, by simp [HNE.out]⟩, ?_⟩
              rw [HW.out, World.drewN_drewN]
              exact below_drew (Below.refl _ _) _
          · have HNE := Lib.hid (show xs ≠ ys from fun h => hxy (by have := HXX.out; rw [h, HXY.out] at this; exact (Option.some.inj this).symm))
            clear hxy
            go_wp2_with fail
            go_quiet (fail)
            go_wp2_with fail
            go_returns
            refine ⟨⟨false, rfl, by simp [HNE.out]⟩, ?_⟩
            rw [HW.out, World.drewN_drewN]
            exact below_drew (Below.refl _ _) _
        · have HNE := Lib.hid (show xs ≠ ys from fun h => hxy (by have := HXX.out; rw [h, HXY.out] at this; exact (Option.some.inj this).symm))
          clear hxy
          go_wp2_with fail
          go_quiet (fail)
          go_wp2_with fail
          go_returns
          refine ⟨⟨false, rfl, by simp [HNE.out]⟩, ?_⟩
          rw [HW.out, World.drewN_drewN]
          exact below_drew (Below.refl _ _) _
    · have HEQ := Lib.hid (all_one (hlen.trans hlen'.symm) (fun j hj => HSM.out j (by omega)))
      clear hwr
      obtain rfl : k = l := by omega
      go_wp2_with fail
      go_returns
      refine ⟨⟨true, rfl, by simp [HEQ.out]⟩, ?_⟩
      rw [HW.out]
      exact below_drew (Below.refl _ _) _

set_option maxHeartbeats 1600000 in
set_option maxRecDepth 100000 in
theorem sm_jobs : Sm 41 [] mk1 (shSlice shJob) := by
  intro lim W vs us xs ys h1 h2 hl
  obtain ⟨a, l, c, rfl, hr⟩ := slice_is.1 h1
  obtain ⟨a', l', c', rfl, hr'⟩ := slice_is.1 h2
  have HR := Lib.hid hr
  have HR' := Lib.hid hr'
  have hml : l ≤ 9223372036854775807 := by have := hr.le; unfold maxLen at this; omega
  clear h1 h2
  by_cases hnl : ¬ l = l'
  · have hll := hnl
    have hl2 : ((l : Int) != (l' : Int)) = true := by simp; omega
    have hne : xs ≠ ys := fun h => hll (by rw [← hr.1, ← hr'.1, h])
    clear hr hr'
    show Calls Tryz.prog 41 #[.slice a l c, .slice a' l' c'] W _
    go_enter Tryz.func41, Tryz.ntmps41
    go_wp2_with fail
    go_returns
    exact ⟨⟨false, rfl, by simp [hne]⟩, Below.refl _ _⟩
  obtain rfl := Decidable.not_not.1 hnl
  clear hnl
  have hl2 : ((l : Int) != (l : Int)) = false := by simp
  have hlen := hr.1
  have hlen' := hr'.1
  clear hr hr'
  show Calls Tryz.prog 41 #[.slice a l c, .slice a' l c'] W _
  go_enter Tryz.func41, Tryz.ntmps41
  go_wp2_with fail
  go_loopw [13] (fun i wr => ∃ k m : Nat, k ≤ l ∧ i = .int .i64 k ∧ wr = W.drewN m ∧ (∀ j, j < k → xs[j]? = ys[j]?)) (fun i _ => l - (intOf i).toNat)
  case atStart => exact ⟨0, 0, Nat.zero_le _, rfl, rfl, fun j hj => absurd hj (Nat.not_lt_zero j)⟩
  case round =>
    obtain ⟨k, m, hk, rfl, hwr, hsame⟩ := hrel
    have HW := Lib.hid hwr
    have HSM := Lib.hid hsame
    clear hsame
    by_cases hlt : k < l
    · have hrA : Row shJob (fun k => k < lim) wr a l xs := by rw [hwr]; exact HR.out.keep (fun _ _ => rfl)
      have hrB : Row shJob (fun k => k < lim) wr a' l ys := by rw [hwr]; exact HR'.out.keep (fun _ _ => rfl)
      obtain ⟨ba, oa, x, vs, rfl, _, hx, hba, iA⟩ := hrA.item hlt
      obtain ⟨bb, ob, y, us, rfl, _, hx', hbb, iB⟩ := hrB.item hlt
      have i0 : (k : Int) < (l : Int) := by omega
      have i1 : (0 : Int) ≤ (k : Int) := by omega
      obtain rfl := job_is.1 iA
      obtain rfl := job_is.1 iB
      have e0 : wr.cell? ⟨ba, oa + k * 3, none⟩ = some (.int .i64 x.c) := hba 0 _ rfl
      have e1 : wr.cell? ⟨ba, oa + k * 3 + 1, none⟩ = some (.int .i64 x.e) := hba 1 _ rfl
      have e2 : wr.cell? ⟨ba, oa + k * 3 + 2, none⟩ = some (.int .i64 x.f) := hba 2 _ rfl
      have d0 : wr.cell? ⟨bb, ob + k * 3, none⟩ = some (.int .i64 y.c) := hbb 0 _ rfl
      have d1 : wr.cell? ⟨bb, ob + k * 3 + 1, none⟩ = some (.int .i64 y.e) := hbb 1 _ rfl
      have d2 : wr.cell? ⟨bb, ob + k * 3 + 2, none⟩ = some (.int .i64 y.f) := hbb 2 _ rfl
      have HXX := Lib.hid hx
      have HXY := Lib.hid hx'
      clear hba hbb hrA hrB hwr hx hx' iA iB
      by_cases hxy : x = y
      · subst hxy
        go_wp2_with fail
        go_quiet (fail)
        go_wp2_with fail
        refine ⟨⟨k + 1, m + nq, ?_, ?_, ?_, ?_⟩, ?_⟩
        · omega
        · go_num
        · rw [HW.out, World.drewN_drewN]
        · intro j hj
          rcases Nat.lt_or_ge j k with h | h
          · exact HSM.out j h
          · rw [show j = k by omega, HXX.out, HXY.out]
        · simp [intOf]; omega
      · by_cases f0 : x.c = y.c
        · by_cases f1 : x.e = y.e
          · by_cases f2 : x.f = y.f
            · exact absurd (by cases x; cases y; simp_all) hxy
            · have HNE := Lib.hid (show xs ≠ ys from fun h => hxy (by have := HXX.out; rw [h, HXY.out] at this; exact (Option.some.inj this).symm))
              clear hxy
              go_wp2_with fail
              go_quiet (fail)
              go_wp2_with fail
              go_returns
              refine ⟨⟨false, rfl, by simp [HNE.out]⟩, ?_⟩
              rw [HW.out, World.drewN_drewN]
              exact below_drew (Below.refl _ _) _
          · have HNE := Lib.hid (show xs ≠ ys from fun h => hxy (by have := HXX.out; rw [h, HXY.out] at this; exact (Option.some.inj this).symm))
            clear hxy
            go_wp2_with fail
            go_quiet (fail)
            go_wp2_with fail
            go_returns
            refine ⟨⟨false, rfl, by simp [HNE.out]⟩, ?_⟩
            rw [HW.out, World.drewN_drewN]
            exact below_drew (Below.refl _ _) _
        · have HNE := Lib.hid (show xs ≠ ys from fun h => hxy (by have := HXX.out; rw [h, HXY.out] at this; exact (Option.some.inj this).symm))
          clear hxy
          go_wp2_with fail
          go_quiet (fail)
          go_wp2_with fail
          go_returns
          refine ⟨⟨false, rfl, by simp [HNE.out]⟩, ?_⟩
          rw [HW.out, World.drewN_drewN]
          exact below_drew (Below.refl _ _) _
    · have HEQ := Lib.hid (all_one (hlen.trans hlen'.symm) (fun j hj => HSM.out j (by omega)))
      clear hwr
      obtain rfl : k = l := by omega
      go_wp2_with fail
      go_returns
      refine ⟨⟨true, rfl, by simp [HEQ.out]⟩, ?_⟩
      rw [HW.out]
      exact below_drew (Below.refl _ _) _

set_option maxHeartbeats 1600000 in
set_option maxRecDepth 100000 in
theorem sm_ops : Sm 72 [] mk1 (shSlice shOp) := by
  intro lim W vs us xs ys h1 h2 hl
  obtain ⟨a, l, c, rfl, hr⟩ := slice_is.1 h1
  obtain ⟨a', l', c', rfl, hr'⟩ := slice_is.1 h2
  have HR := Lib.hid hr
  have HR' := Lib.hid hr'
  have hml : l ≤ 9223372036854775807 := by have := hr.le; unfold maxLen at this; omega
  clear h1 h2
  by_cases hnl : ¬ l = l'
  · have hll := hnl
    have hl2 : ((l : Int) != (l' : Int)) = true := by simp; omega
    have hne : xs ≠ ys := fun h => hll (by rw [← hr.1, ← hr'.1, h])
    clear hr hr'
    show Calls Tryz.prog 72 #[.slice a l c, .slice a' l' c'] W _
    go_enter Tryz.func72, Tryz.ntmps72
    go_wp2_with fail
    go_returns
    exact ⟨⟨false, rfl, by simp [hne]⟩, Below.refl _ _⟩
  obtain rfl := Decidable.not_not.1 hnl
  clear hnl
  have hl2 : ((l : Int) != (l : Int)) = false := by simp
  have hlen := hr.1
  have hlen' := hr'.1
  clear hr hr'
  show Calls Tryz.prog 72 #[.slice a l c, .slice a' l c'] W _
  go_enter Tryz.func72, Tryz.ntmps72
  go_wp2_with fail
  go_loopw [13] (fun i wr => ∃ k m : Nat, k ≤ l ∧ i = .int .i64 k ∧ wr = W.drewN m ∧ (∀ j, j < k → xs[j]? = ys[j]?)) (fun i _ => l - (intOf i).toNat)
  case atStart => exact ⟨0, 0, Nat.zero_le _, rfl, rfl, fun j hj => absurd hj (Nat.not_lt_zero j)⟩
  case round =>
    obtain ⟨k, m, hk, rfl, hwr, hsame⟩ := hrel
    have HW := Lib.hid hwr
    have HSM := Lib.hid hsame
    clear hsame
    by_cases hlt : k < l
    · have hrA : Row shOp (fun k => k < lim) wr a l xs := by rw [hwr]; exact HR.out.keep (fun _ _ => rfl)
      have hrB : Row shOp (fun k => k < lim) wr a' l ys := by rw [hwr]; exact HR'.out.keep (fun _ _ => rfl)
      obtain ⟨ba, oa, x, vs, rfl, _, hx, hba, iA⟩ := hrA.item hlt
      obtain ⟨bb, ob, y, us, rfl, _, hx', hbb, iB⟩ := hrB.item hlt
      have i0 : (k : Int) < (l : Int) := by omega
      have i1 : (0 : Int) ≤ (k : Int) := by omega
      obtain rfl := op_is.1 iA
      obtain rfl := op_is.1 iB
      have e0 : wr.cell? ⟨ba, oa + k * 3, none⟩ = some (.int .i64 x.k) := hba 0 _ rfl
      have e1 : wr.cell? ⟨ba, oa + k * 3 + 1, none⟩ = some (.int .i64 x.a) := hba 1 _ rfl
      have e2 : wr.cell? ⟨ba, oa + k * 3 + 2, none⟩ = some (.int .i64 x.b) := hba 2 _ rfl
      have d0 : wr.cell? ⟨bb, ob + k * 3, none⟩ = some (.int .i64 y.k) := hbb 0 _ rfl
      have d1 : wr.cell? ⟨bb, ob + k * 3 + 1, none⟩ = some (.int .i64 y.a) := hbb 1 _ rfl
      have d2 : wr.cell? ⟨bb, ob + k * 3 + 2, none⟩ = some (.int .i64 y.b) := hbb 2 _ rfl
      have HXX := Lib.hid hx
      have HXY := Lib.hid hx'
      clear hba hbb hrA hrB hwr hx hx' iA iB
      by_cases hxy : x = y
      · subst hxy
        go_wp2_with fail
        go_quiet (fail)
        go_wp2_with fail
        refine ⟨⟨k + 1, m + nq, ?_, ?_, ?_, ?_⟩, ?_⟩
        · omega
        · go_num
        · rw [HW.out, World.drewN_drewN]
        · intro j hj
          rcases Nat.lt_or_ge j k with h | h
          · exact HSM.out j h
          · rw [show j = k by omega, HXX.out, HXY.out]
        · simp [intOf]; omega
      · by_cases f0 : x.k = y.k
        · by_cases f1 : x.a = y.a
          · by_cases f2 : x.b = y.b
            · exact absurd (by cases x; cases y; simp_all) hxy
            · have HNE := Lib.hid (show xs ≠ ys from fun h => hxy (by have := HXX.out; rw [h, HXY.out] at this; exact (Option.some.inj this).symm))
              clear hxy
              go_wp2_with fail
              go_quiet (fail)
              go_wp2_with fail
              go_returns
              refine ⟨⟨false, rfl, by simp [HNE.out]⟩, ?_⟩
              rw [HW.out, World.drewN_drewN]
              exact below_drew (Below.refl _ _) _
          · have HNE := Lib.hid (show xs ≠ ys from fun h => hxy (by have := HXX.out; rw [h, HXY.out] at this; exact (Option.some.inj this).symm))
            clear hxy
            go_wp2_with fail
            go_quiet (fail)
            go_wp2_with fail
            go_returns
            refine ⟨⟨false, rfl, by simp [HNE.out]⟩, ?_⟩
            rw [HW.out, World.drewN_drewN]
            exact below_drew (Below.refl _ _) _
        · have HNE := Lib.hid (show xs ≠ ys from fun h => hxy (by have := HXX.out; rw [h, HXY.out] at this; exact (Option.some.inj this).symm))
          clear hxy
          go_wp2_with fail
          go_quiet (fail)
          go_wp2_with fail
          go_returns
          refine ⟨⟨false, rfl, by simp [HNE.out]⟩, ?_⟩
          rw [HW.out, World.drewN_drewN]
          exact below_drew (Below.refl _ _) _
    · have HEQ := Lib.hid (all_one (hlen.trans hlen'.symm) (fun j hj => HSM.out j (by omega)))
      clear hwr
      obtain rfl : k = l := by omega
      go_wp2_with fail
      go_returns
      refine ⟨⟨true, rfl, by simp [HEQ.out]⟩, ?_⟩
      rw [HW.out]
      exact below_drew (Below.refl _ _) _
end Go.Proofs.YtoaohoeghlidaaaGreatDoor
