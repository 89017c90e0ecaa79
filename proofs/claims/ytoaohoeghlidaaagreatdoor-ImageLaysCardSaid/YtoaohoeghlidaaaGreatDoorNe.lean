/-
  What is not one answers so: lists, parts.
-/
import Derived.Test.YtoaohoeghlidaaaGreatDoorEqI
namespace Go.Proofs.YtoaohoeghlidaaaGreatDoor
open Go.ChangeShapes Go.WideShapes Go.ChangeAt Go.RowKit

/-- two that are not one: told so; what is kept stays -/
def NeQ (f : Nat) (mk : List Value → Value) {T : Type} (sh : Sh T) : Prop :=
  ∀ (lim lim' : Nat) (W : World) (vs us : List Value) (x y : T), sh.Is (fun k => k < lim) W vs x → sh.Is (fun k => k < lim') W us y → x ≠ y →
    Calls Tryz.prog f #[mk vs, mk us] W fun e W' => e = .returned (.bool false) ∧ ∃ n, W' = W.drewN n
def NeT (f : Nat) (mk : List Value → Value) {T : Type} (sh : Sh T) : Prop :=
  ∀ (lim : Nat) (W : World) (vs us : List Value) (x y : T), sh.Is (fun k => k < lim) W vs x → sh.Is (fun k => k < lim) W us y → lim ≤ W.heap.size → x ≠ y →
    Calls Tryz.prog f #[mk vs, mk us] W fun e W' => e = .returned (.bool false) ∧ Below W.heap.size W W'
theorem NeQ.quiet {f : Nat} {mk : List Value → Value} {T : Type} {sh : Sh T} (h : NeQ f mk sh) {lim lim' : Nat} {W : World} {vs us : List Value} {x y : T} (h1 : sh.Is (fun k => k < lim) W vs x) (h2 : sh.Is (fun k => k < lim') W us y) (hn : x ≠ y) (m : Nat) :
    Calls Tryz.prog f #[mk vs, mk us] (W.drewN m) fun e W' => e = .returned (.bool false) ∧ ∃ n, W' = W.drewN n :=
  Calls.quiet_of (h lim lim' (W.drewN m) vs us x y (sh.keep (W := W) (W' := W.drewN m) (fun _ _ => rfl) h1) (sh.keep (W := W) (W' := W.drewN m) (fun _ _ => rfl) h2) hn)
theorem all_one {T : Type} {xs ys : List T} (hl : xs.length = ys.length) (h : ∀ j, j < xs.length → xs[j]? = ys[j]?) : xs = ys := by
  apply List.ext_getElem?
  intro j
  rcases Nat.lt_or_ge j xs.length with hj | hj
  · exact h j hj
  · rw [List.getElem?_eq_none hj, List.getElem?_eq_none (by omega)]
theorem str_ne {a b : ByteArray} (h : a ≠ b) : (a.toList == b.toList) = false := by
  rw [← Bool.not_eq_true]
  intro e
  rw [beq_iff_eq, ByteArray.toList_eq, ByteArray.toList_eq] at e
  apply h
  rcases a with ⟨⟨l⟩⟩
  rcases b with ⟨⟨m⟩⟩
  simp at e
  rw [e]

set_option maxHeartbeats 1600000 in
set_option maxRecDepth 100000 in
theorem ne_ints : NeQ 73 mk1 (shSlice shInt) := by
  intro lim lim' W vs us xs ys h1 h2 hne
  obtain ⟨a, l, c, rfl, hr⟩ := slice_is.1 h1
  obtain ⟨a', l', c', rfl, hr'⟩ := slice_is.1 h2
  have HR := Lib.hid hr
  have HR' := Lib.hid hr'
  have hml : l ≤ 9223372036854775807 := by have := hr.le; unfold maxLen at this; omega
  clear h1 h2
  by_cases hnl : ¬ l = l'
  · have hll := hnl
    have hl2 : ((l : Int) != (l' : Int)) = true := by simp; omega
    clear hr hr' hne
    show Calls Tryz.prog 73 #[.slice a l c, .slice a' l' c'] W _
    go_enter Tryz.func73, Tryz.ntmps73
    go_wp2_with fail
    go_returns
    exact ⟨rfl, 0, rfl⟩
  obtain rfl := Decidable.not_not.1 hnl
  clear hnl
  have hl2 : ((l : Int) != (l : Int)) = false := by simp
  have hlen := hr.1
  have hlen' := hr'.1
  have HNE := Lib.hid hne
  clear hr hr' hne
  show Calls Tryz.prog 73 #[.slice a l c, .slice a' l c'] W _
  go_enter Tryz.func73, Tryz.ntmps73
  go_wp2_with fail
  go_loopw [5] (fun i wr => ∃ k m : Nat, k ≤ l ∧ i = .int .i64 k ∧ wr = W.drewN m ∧ (∀ j, j < k → xs[j]? = ys[j]?)) (fun i _ => l - (intOf i).toNat)
  case atStart => exact ⟨0, 0, Nat.zero_le _, rfl, rfl, fun j hj => absurd hj (Nat.not_lt_zero j)⟩
  case round =>
    obtain ⟨k, m, hk, rfl, hwr, hsame⟩ := hrel
    have HW := Lib.hid hwr
    have HSM := Lib.hid hsame
    clear hsame
    by_cases hlt : k < l
    · have hrA : Row shInt (fun k => k < lim) wr a l xs := by rw [hwr]; exact HR.out.keep (fun _ _ => rfl)
      have hrB : Row shInt (fun k => k < lim') wr a' l ys := by rw [hwr]; exact HR'.out.keep (fun _ _ => rfl)
      obtain ⟨ba, oa, x, vs, rfl, _, hx, hba, iA⟩ := hrA.item hlt
      obtain ⟨bb, ob, y, us, rfl, _, hx', hbb, iB⟩ := hrB.item hlt
      have i0 : (k : Int) < (l : Int) := by omega
      have i1 : (0 : Int) ≤ (k : Int) := by omega
      obtain rfl := int_is.1 iA
      obtain rfl := int_is.1 iB
      have e0 : wr.cell? ⟨ba, oa + k, none⟩ = some (.int .i64 x) := by have := hba 0 _ rfl; rw [show oa + k * shInt.n + 0 = oa + k by show oa + k * 1 + 0 = _; omega] at this; exact this
      have d0 : wr.cell? ⟨bb, ob + k, none⟩ = some (.int .i64 y) := by have := hbb 0 _ rfl; rw [show ob + k * shInt.n + 0 = ob + k by show ob + k * 1 + 0 = _; omega] at this; exact this
      have HXX := Lib.hid hx
      have HXY := Lib.hid hx'
      clear hba hbb hrA hrB hwr hx hx' iA iB
      by_cases hxy : x = y
      · subst hxy
        go_wp2_with fail
        go_quiet (fail)
        go_wp2_with fail
        refine ⟨⟨k + 1, m + nq, ?_, ?_, ?_, ?_⟩, ?_⟩
        · omega
        · go_num
        · rw [HW.out, World.drewN_drewN]
        · intro j hj
          rcases Nat.lt_or_ge j k with h | h
          · exact HSM.out j h
          · rw [show j = k by omega, HXX.out, HXY.out]
        · simp [intOf]; omega
      · skip
        have b0 : (x == y) = false := by rw [← Bool.not_eq_true, beq_iff_eq]; exact hxy
        clear hxy
        go_wp2_with fail
        go_quiet (fail)
        go_wp2_with fail
        go_returns
        exact ⟨rfl, m + nq, by rw [HW.out, World.drewN_drewN]⟩
    · exact absurd (all_one (hlen.trans hlen'.symm) (fun j hj => HSM.out j (by omega))) HNE.out

set_option maxHeartbeats 1600000 in
set_option maxRecDepth 100000 in
theorem ne_texts : NeQ 75 mk1 (shSlice shStr) := by
  intro lim lim' W vs us xs ys h1 h2 hne
  obtain ⟨a, l, c, rfl, hr⟩ := slice_is.1 h1
  obtain ⟨a', l', c', rfl, hr'⟩ := slice_is.1 h2
  have HR := Lib.hid hr
  have HR' := Lib.hid hr'
  have hml : l ≤ 9223372036854775807 := by have := hr.le; unfold maxLen at this; omega
  clear h1 h2
  by_cases hnl : ¬ l = l'
  · have hll := hnl
    have hl2 : ((l : Int) != (l' : Int)) = true := by simp; omega
    clear hr hr' hne
    show Calls Tryz.prog 75 #[.slice a l c, .slice a' l' c'] W _
    go_enter Tryz.func75, Tryz.ntmps75
    go_wp2_with fail
    go_returns
    exact ⟨rfl, 0, rfl⟩
  obtain rfl := Decidable.not_not.1 hnl
  clear hnl
  have hl2 : ((l : Int) != (l : Int)) = false := by simp
  have hlen := hr.1
  have hlen' := hr'.1
  have HNE := Lib.hid hne
  clear hr hr' hne
  show Calls Tryz.prog 75 #[.slice a l c, .slice a' l c'] W _
  go_enter Tryz.func75, Tryz.ntmps75
  go_wp2_with fail
  go_loopw [5] (fun i wr => ∃ k m : Nat, k ≤ l ∧ i = .int .i64 k ∧ wr = W.drewN m ∧ (∀ j, j < k → xs[j]? = ys[j]?)) (fun i _ => l - (intOf i).toNat)
  case atStart => exact ⟨0, 0, Nat.zero_le _, rfl, rfl, fun j hj => absurd hj (Nat.not_lt_zero j)⟩
  case round =>
    obtain ⟨k, m, hk, rfl, hwr, hsame⟩ := hrel
    have HW := Lib.hid hwr
    have HSM := Lib.hid hsame
    clear hsame
    by_cases hlt : k < l
    · have hrA : Row shStr (fun k => k < lim) wr a l xs := by rw [hwr]; exact HR.out.keep (fun _ _ => rfl)
      have hrB : Row shStr (fun k => k < lim') wr a' l ys := by rw [hwr]; exact HR'.out.keep (fun _ _ => rfl)
      obtain ⟨ba, oa, x, vs, rfl, _, hx, hba, iA⟩ := hrA.item hlt
      obtain ⟨bb, ob, y, us, rfl, _, hx', hbb, iB⟩ := hrB.item hlt
      have i0 : (k : Int) < (l : Int) := by omega
      have i1 : (0 : Int) ≤ (k : Int) := by omega
      obtain rfl := str_is.1 iA
      obtain rfl := str_is.1 iB
      have e0 : wr.cell? ⟨ba, oa + k, none⟩ = some (.string x) := by have := hba 0 _ rfl; rw [show oa + k * shStr.n + 0 = oa + k by show oa + k * 1 + 0 = _; omega] at this; exact this
      have d0 : wr.cell? ⟨bb, ob + k, none⟩ = some (.string y) := by have := hbb 0 _ rfl; rw [show ob + k * shStr.n + 0 = ob + k by show ob + k * 1 + 0 = _; omega] at this; exact this
      have HXX := Lib.hid hx
      have HXY := Lib.hid hx'
      clear hba hbb hrA hrB hwr hx hx' iA iB
      by_cases hxy : x = y
      · subst hxy
        go_wp2_with fail
        go_quiet (fail)
        go_wp2_with fail
        refine ⟨⟨k + 1, m + nq, ?_, ?_, ?_, ?_⟩, ?_⟩
        · omega
        · go_num
        · rw [HW.out, World.drewN_drewN]
        · intro j hj
          rcases Nat.lt_or_ge j k with h | h
          · exact HSM.out j h
          · rw [show j = k by omega, HXX.out, HXY.out]
        · simp [intOf]; omega
      · skip
        have b0 : (x.toList == y.toList) = false := str_ne hxy
        clear hxy
        go_wp2_with fail
        go_quiet (fail)
        go_wp2_with fail
        go_returns
        exact ⟨rfl, m + nq, by rw [HW.out, World.drewN_drewN]⟩
    · exact absurd (all_one (hlen.trans hlen'.symm) (fun j hj => HSM.out j (by omega))) HNE.out

set_option maxHeartbeats 1600000 in
set_option maxRecDepth 100000 in
theorem ne_ops : NeQ 77 mk1 (shSlice shOp) := by
  intro lim lim' W vs us xs ys h1 h2 hne
  obtain ⟨a, l, c, rfl, hr⟩ := slice_is.1 h1
  obtain ⟨a', l', c', rfl, hr'⟩ := slice_is.1 h2
  have HR := Lib.hid hr
  have HR' := Lib.hid hr'
  have hml : l ≤ 9223372036854775807 := by have := hr.le; unfold maxLen at this; omega
  clear h1 h2
  by_cases hnl : ¬ l = l'
  · have hll := hnl
    have hl2 : ((l : Int) != (l' : Int)) = true := by simp; omega
    clear hr hr' hne
    show Calls Tryz.prog 77 #[.slice a l c, .slice a' l' c'] W _
    go_enter Tryz.func77, Tryz.ntmps77
    go_wp2_with fail
    go_returns
    exact ⟨rfl, 0, rfl⟩
  obtain rfl := Decidable.not_not.1 hnl
  clear hnl
  have hl2 : ((l : Int) != (l : Int)) = false := by simp
  have hlen := hr.1
  have hlen' := hr'.1
  have HNE := Lib.hid hne
  clear hr hr' hne
  show Calls Tryz.prog 77 #[.slice a l c, .slice a' l c'] W _
  go_enter Tryz.func77, Tryz.ntmps77
  go_wp2_with fail
  go_loopw [5] (fun i wr => ∃ k m : Nat, k ≤ l ∧ i = .int .i64 k ∧ wr = W.drewN m ∧ (∀ j, j < k → xs[j]? = ys[j]?)) (fun i _ => l - (intOf i).toNat)
  case atStart => exact ⟨0, 0, Nat.zero_le _, rfl, rfl, fun j hj => absurd hj (Nat.not_lt_zero j)⟩
  case round =>
    obtain ⟨k, m, hk, rfl, hwr, hsame⟩ := hrel
    have HW := Lib.hid hwr
    have HSM := Lib.hid hsame
    clear hsame
    by_cases hlt : k < l
    · have hrA : Row shOp (fun k => k < lim) wr a l xs := by rw [hwr]; exact HR.out.keep (fun _ _ => rfl)
      have hrB : Row shOp (fun k => k < lim') wr a' l ys := by rw [hwr]; exact HR'.out.keep (fun _ _ => rfl)
      obtain ⟨ba, oa, x, vs, rfl, _, hx, hba, iA⟩ := hrA.item hlt
      obtain ⟨bb, ob, y, us, rfl, _, hx', hbb, iB⟩ := hrB.item hlt
      have i0 : (k : Int) < (l : Int) := by omega
      have i1 : (0 : Int) ≤ (k : Int) := by omega
      obtain rfl := op_is.1 iA
      obtain rfl := op_is.1 iB
      have e0 : wr.cell? ⟨ba, oa + k * 3, none⟩ = some (.int .i64 x.k) := hba 0 _ rfl
      have e1 : wr.cell? ⟨ba, oa + k * 3 + 1, none⟩ = some (.int .i64 x.a) := hba 1 _ rfl
      have e2 : wr.cell? ⟨ba, oa + k * 3 + 2, none⟩ = some (.int .i64 x.b) := hba 2 _ rfl
      have d0 : wr.cell? ⟨bb, ob + k * 3, none⟩ = some (.int .i64 y.k) := hbb 0 _ rfl
      have d1 : wr.cell? ⟨bb, ob + k * 3 + 1, none⟩ = some (.int .i64 y.a) := hbb 1 _ rfl
      have d2 : wr.cell? ⟨bb, ob + k * 3 + 2, none⟩ = some (.int .i64 y.b) := hbb 2 _ rfl
      have HXX := Lib.hid hx
      have HXY := Lib.hid hx'
      clear hba hbb hrA hrB hwr hx hx' iA iB
      by_cases hxy : x = y
      · subst hxy
        go_wp2_with fail
        go_quiet (fail)
        go_wp2_with fail
        refine ⟨⟨k + 1, m + nq, ?_, ?_, ?_, ?_⟩, ?_⟩
        · omega
        · go_num
        · rw [HW.out, World.drewN_drewN]
        · intro j hj
          rcases Nat.lt_or_ge j k with h | h
          · exact HSM.out j h
          · rw [show j = k by omega, HXX.out, HXY.out]
        · simp [intOf]; omega
      · skip
        have hd : ¬ (x.k = y.k ∧ x.a = y.a ∧ x.b = y.b) := fun h => hxy (by rcases x with ⟨_, _, _⟩; rcases y with ⟨_, _, _⟩; simp at h; obtain ⟨h1, h2, h3⟩ := h; subst h1; subst h2; subst h3; rfl)
        clear hxy
        by_cases b0 : x.k = y.k
        · by_cases b1 : x.a = y.a
          · have b2 : (x.b == y.b) = false := by rw [← Bool.not_eq_true, beq_iff_eq]; exact fun h => hd ⟨b0, b1, h⟩
            have b0' : (x.k == y.k) = true := by rw [b0]; simp
            have b1' : (x.a == y.a) = true := by rw [b1]; simp
            clear hd b0 b1
            go_wp2_with fail
            go_quiet (fail)
            go_wp2_with fail
            go_returns
            exact ⟨rfl, m + nq, by rw [HW.out, World.drewN_drewN]⟩
          · have b1' : (x.a == y.a) = false := by rw [← Bool.not_eq_true, beq_iff_eq]; exact b1
            have b0' : (x.k == y.k) = true := by rw [b0]; simp
            clear hd b0 b1
            go_wp2_with fail
            go_quiet (fail)
            go_wp2_with fail
            go_returns
            exact ⟨rfl, m + nq, by rw [HW.out, World.drewN_drewN]⟩
        · have b0' : (x.k == y.k) = false := by rw [← Bool.not_eq_true, beq_iff_eq]; exact b0
          clear hd b0
          go_wp2_with fail
          go_quiet (fail)
          go_wp2_with fail
          go_returns
          exact ⟨rfl, m + nq, by rw [HW.out, World.drewN_drewN]⟩
    · exact absurd (all_one (hlen.trans hlen'.symm) (fun j hj => HSM.out j (by omega))) HNE.out

set_option maxHeartbeats 1600000 in
set_option maxRecDepth 100000 in
theorem ne_links : NeQ 74 mk1 (shSlice shLink) := by
  intro lim lim' W vs us xs ys h1 h2 hne
  obtain ⟨a, l, c, rfl, hr⟩ := slice_is.1 h1
  obtain ⟨a', l', c', rfl, hr'⟩ := slice_is.1 h2
  have HR := Lib.hid hr
  have HR' := Lib.hid hr'
  have hml : l ≤ 9223372036854775807 := by have := hr.le; unfold maxLen at this; omega
  clear h1 h2
  by_cases hnl : ¬ l = l'
  · have hll := hnl
    have hl2 : ((l : Int) != (l' : Int)) = true := by simp; omega
    clear hr hr' hne
    show Calls Tryz.prog 74 #[.slice a l c, .slice a' l' c'] W _
    go_enter Tryz.func74, Tryz.ntmps74
    go_wp2_with fail
    go_returns
    exact ⟨rfl, 0, rfl⟩
  obtain rfl := Decidable.not_not.1 hnl
  clear hnl
  have hl2 : ((l : Int) != (l : Int)) = false := by simp
  have hlen := hr.1
  have hlen' := hr'.1
  have HNE := Lib.hid hne
  clear hr hr' hne
  show Calls Tryz.prog 74 #[.slice a l c, .slice a' l c'] W _
  go_enter Tryz.func74, Tryz.ntmps74
  go_wp2_with fail
  go_loopw [5] (fun i wr => ∃ k m : Nat, k ≤ l ∧ i = .int .i64 k ∧ wr = W.drewN m ∧ (∀ j, j < k → xs[j]? = ys[j]?)) (fun i _ => l - (intOf i).toNat)
  case atStart => exact ⟨0, 0, Nat.zero_le _, rfl, rfl, fun j hj => absurd hj (Nat.not_lt_zero j)⟩
  case round =>
    obtain ⟨k, m, hk, rfl, hwr, hsame⟩ := hrel
    have HW := Lib.hid hwr
    have HSM := Lib.hid hsame
    clear hsame
    by_cases hlt : k < l
    · have hrA : Row shLink (fun k => k < lim) wr a l xs := by rw [hwr]; exact HR.out.keep (fun _ _ => rfl)
      have hrB : Row shLink (fun k => k < lim') wr a' l ys := by rw [hwr]; exact HR'.out.keep (fun _ _ => rfl)
      obtain ⟨ba, oa, x, vs, rfl, _, hx, hba, iA⟩ := hrA.item hlt
      obtain ⟨bb, ob, y, us, rfl, _, hx', hbb, iB⟩ := hrB.item hlt
      have i0 : (k : Int) < (l : Int) := by omega
      have i1 : (0 : Int) ≤ (k : Int) := by omega
      obtain rfl := link_is.1 iA
      obtain rfl := link_is.1 iB
      have e0 : wr.cell? ⟨ba, oa + k * 3, none⟩ = some (.int .i64 x.g) := hba 0 _ rfl
      have e1 : wr.cell? ⟨ba, oa + k * 3 + 1, none⟩ = some (.int .i64 x.s) := hba 1 _ rfl
      have e2 : wr.cell? ⟨ba, oa + k * 3 + 2, none⟩ = some (.bool x.b) := hba 2 _ rfl
      have d0 : wr.cell? ⟨bb, ob + k * 3, none⟩ = some (.int .i64 y.g) := hbb 0 _ rfl
      have d1 : wr.cell? ⟨bb, ob + k * 3 + 1, none⟩ = some (.int .i64 y.s) := hbb 1 _ rfl
      have d2 : wr.cell? ⟨bb, ob + k * 3 + 2, none⟩ = some (.bool y.b) := hbb 2 _ rfl
      have HXX := Lib.hid hx
      have HXY := Lib.hid hx'
      clear hba hbb hrA hrB hwr hx hx' iA iB
      by_cases hxy : x = y
      · subst hxy
        go_wp2_with fail
        go_quiet (fail)
        go_wp2_with fail
        refine ⟨⟨k + 1, m + nq, ?_, ?_, ?_, ?_⟩, ?_⟩
        · omega
        · go_num
        · rw [HW.out, World.drewN_drewN]
        · intro j hj
          rcases Nat.lt_or_ge j k with h | h
          · exact HSM.out j h
          · rw [show j = k by omega, HXX.out, HXY.out]
        · simp [intOf]; omega
      · skip
        have hd : ¬ (x.g = y.g ∧ x.s = y.s ∧ x.b = y.b) := fun h => hxy (by rcases x with ⟨_, _, _⟩; rcases y with ⟨_, _, _⟩; simp at h; obtain ⟨h1, h2, h3⟩ := h; subst h1; subst h2; subst h3; rfl)
        clear hxy
        by_cases b0 : x.g = y.g
        · by_cases b1 : x.s = y.s
          · have b2 : (x.b == y.b) = false := by rw [← Bool.not_eq_true, beq_iff_eq]; exact fun h => hd ⟨b0, b1, h⟩
            have b0' : (x.g == y.g) = true := by rw [b0]; simp
            have b1' : (x.s == y.s) = true := by rw [b1]; simp
            clear hd b0 b1
            go_wp2_with fail
            go_quiet (fail)
            go_wp2_with fail
            go_returns
            exact ⟨rfl, m + nq, by rw [HW.out, World.drewN_drewN]⟩
          · have b1' : (x.s == y.s) = false := by rw [← Bool.not_eq_true, beq_iff_eq]; exact b1
            have b0' : (x.g == y.g) = true := by rw [b0]; simp
            clear hd b0 b1
            go_wp2_with fail
            go_quiet (fail)
            go_wp2_with fail
            go_returns
            exact ⟨rfl, m + nq, by rw [HW.out, World.drewN_drewN]⟩
        · have b0' : (x.g == y.g) = false := by rw [← Bool.not_eq_true, beq_iff_eq]; exact b0
          clear hd b0
          go_wp2_with fail
          go_quiet (fail)
          go_wp2_with fail
          go_returns
          exact ⟨rfl, m + nq, by rw [HW.out, World.drewN_drewN]⟩
    · exact absurd (all_one (hlen.trans hlen'.symm) (fun j hj => HSM.out j (by omega))) HNE.out
end Go.Proofs.YtoaohoeghlidaaaGreatDoor
