/-
  What Print writes, Parse reads: the pure facts.
-/
import Derived.Test.YtjbagjmjbfiddaaGreatDoorInv
namespace Go.Proofs.YtjbagjmjbfiddaaGreatDoor

theorem splitL_nums : ∀ (ns : List Int) (a : List UInt8), (32 : UInt8) ∉ a → splitL 32 (a ++ ns.flatMap numB) = a :: ns.map Lib.itoa
  | [], a, h => by simpa using splitL_miss h
  | n :: ns, a, h => by
    rw [List.flatMap_cons]
    show splitL 32 (a ++ 32 :: (Lib.itoa n ++ ns.flatMap numB)) = _
    rw [splitL_hit _ h, splitL_nums ns (Lib.itoa n) (itoa_no (by decide))]
    rfl
theorem nums_no {c : UInt8} (hc : c.toNat < 45) (h32 : c ≠ 32) : ∀ ns : List Int, c ∉ ns.flatMap numB
  | [], h => by simp at h
  | n :: ns, h => by
    rw [List.flatMap_cons] at h
    rcases List.mem_append.1 h with h | h
    · rcases List.mem_cons.1 h with h | h
      · exact h32 h
      · exact itoa_no hc h
    · exact nums_no hc h32 ns h

def lineB (x : ScA) : List UInt8 := [115, 99, 97, 110] ++ 32 :: (Lib.itoa x.t ++ x.ns.flatMap numB)
theorem scanB_line (x : ScA) : scanB x = lineB x ++ [10] := by simp [scanB, lineB]
theorem lineB_split (x : ScA) : splitL 32 (lineB x) = [115, 99, 97, 110] :: Lib.itoa x.t :: x.ns.map Lib.itoa := by
  unfold lineB
  rw [splitL_hit _ (by decide), splitL_nums _ _ (itoa_no (by decide))]
theorem lineB_no (x : ScA) : (10 : UInt8) ∉ lineB x := by
  intro h
  unfold lineB at h
  rcases List.mem_append.1 h with h | h
  · revert h; decide
  · rcases List.mem_cons.1 h with h | h
    · revert h; decide
    · rcases List.mem_append.1 h with h | h
      · exact itoa_no (by decide) h
      · exact nums_no (by decide) (by decide) _ h
theorem lineB_src (x : ScA) : srcOk (lineB x) = false := by
  have h : Lib.hasPrefix (lineB x) [115, 114, 99, 32] = false := by
    unfold lineB
    rfl
  unfold srcOk
  rw [h]
  rfl
/-- a scan that may be written -/
def Fine (x : ScA) : Prop := mayOf x = true ∧ x.ns.length = x.l
theorem Fine.nums {x : ScA} (h : Fine x) : isNum x.t = true ∧ x.ns.length ≤ 16 ∧ ∀ n ∈ x.ns, isNum n = true := by
  obtain ⟨h1, h2⟩ := h
  unfold mayOf at h1
  simp only [Bool.and_eq_true, decide_eq_true_eq, List.all_eq_true] at h1
  exact ⟨h1.1.2, by omega, h1.2⟩
theorem lineB_ok {x : ScA} (h : Fine x) : scanOk ⟨(lineB x).toArray⟩ = true := by
  obtain ⟨h1, h2, h3⟩ := h.nums
  rw [scanOk_eq]
  show scanOkL (splitL 32 (lineB x)) = true
  rw [lineB_split]
  unfold scanOkL
  simp only [Bool.and_eq_true, decide_eq_true_eq, List.all_eq_true]
  refine ⟨⟨⟨by decide, by simp⟩, by simp; omega⟩, fun y hy => ?_⟩
  rcases List.mem_cons.1 hy with rfl | hy
  · unfold numL; rw [numOf_itoa h1]; rfl
  · obtain ⟨n, hn, rfl⟩ := List.mem_map.1 hy
    unfold numL; rw [numOf_itoa (h3 n hn)]; rfl
theorem lineB_val {x : ScA} (h : Fine x) : scanVal ⟨(lineB x).toArray⟩ = val x := by
  obtain ⟨h1, h2, h3⟩ := h.nums
  rw [scanVal_eq]
  show scanValL (splitL 32 (lineB x)) = _
  rw [lineB_split]
  unfold scanValL
  have e1 : (numL (Lib.itoa x.t)).getD 0 = x.t := by unfold numL; rw [numOf_itoa h1]; rfl
  have e2 : (x.ns.map Lib.itoa).map (fun y => (numL y).getD 0) = x.ns := by
    rw [List.map_map]
    conv => rhs; rw [← List.map_id x.ns]
    refine List.map_congr_left fun n hn => ?_
    show (numL (Lib.itoa n)).getD 0 = n
    unfold numL; rw [numOf_itoa (h3 n hn)]; rfl
  show ((numL (Lib.itoa x.t)).getD 0, (x.ns.map Lib.itoa).map fun y => (numL y).getD 0) = val x
  rw [e1, e2]
  rfl
theorem read_scans : ∀ (S : List ScA), (∀ x ∈ S, Fine x) → ∀ (f n : Nat) (l : List UInt8) (T : List (Int × List Int)), (S.flatMap scanB).length ≤ f → readL f (S.flatMap scanB) n l T = .inr (l, T ++ S.map val)
  | [], _, f, n, l, T, _ => by
    show readL f [] n l T = _
    rw [readL_nil]
    simp
  | x :: S, h, f, n, l, T, hf => by
    have hx := h x (by simp)
    have e : (x :: S).flatMap scanB = lineB x ++ 10 :: S.flatMap scanB := by rw [List.flatMap_cons, scanB_line]; simp
    rw [e] at hf ⊢
    obtain ⟨g, rfl⟩ : ∃ g, f = g + 1 := ⟨f - 1, by simp at hf; omega⟩
    have hc := ((cutL_app (lineB x) (S.flatMap scanB)).2 (lineB_no x)).1
    unfold readL
    rw [if_neg (by simp), hc]
    simp only
    rw [if_neg (by rw [lineB_src]; decide), if_pos (lineB_ok hx), lineB_val hx, read_scans S (fun y hy => h y (by simp [hy])) g _ _ _ (by rw [List.length_append, List.length_cons] at hf; omega)]
    simp
theorem hexes_no (s : ByteArray) : ∀ k, (10 : UInt8) ∉ hexes s k
  | 0, h => by simp [hexes] at h
  | k + 1, h => by
    unfold hexes at h
    rcases List.mem_append.1 h with h | h
    · exact hexes_no s k h
    · have hb := sat_bd s k
      have b1 := hx_bd (k := (sat s k).toNat / 16) (by omega)
      have b2 := hx_bd (k := (sat s k).toNat % 16) (by omega)
      simp only [List.mem_cons, List.not_mem_nil, or_false] at h
      rcases h with h | h
      · have := congrArg UInt8.toNat h
        rw [UInt8.toNat_ofNat'] at this
        have e : (10 : UInt8).toNat = 10 := rfl
        omega
      · have := congrArg UInt8.toNat h
        rw [UInt8.toNat_ofNat'] at this
        have e : (10 : UInt8).toNat = 10 := rfl
        omega
theorem hexOf_no (s : ByteArray) : (10 : UInt8) ∉ (hexOf s).data.toList := by
  unfold hexOf
  split
  · decide
  · simpa using hexes_no s s.size
theorem read_text (src : ByteArray) (S : List ScA) (h : ∀ x ∈ S, Fine x) : readAll ⟨(textB src S).toArray⟩ = .inr (src.data.toList, S.map val) := by
  obtain ⟨H, hH⟩ : ∃ H, (hexOf src).data.toList = H := ⟨_, rfl⟩
  have hno : (10 : UInt8) ∉ H := by rw [← hH]; exact hexOf_no src
  have hrd : readOf ⟨H.toArray⟩ = (src, true) := by rw [← hH]; exact readOf_hexOf src
  have e : textB src S = ([115, 114, 99, 32] ++ H) ++ 10 :: S.flatMap scanB := by unfold textB headB; rw [hH]; simp
  have hno2 : (10 : UInt8) ∉ ([115, 114, 99, 32] ++ H) := by
    intro hm
    rcases List.mem_append.1 hm with hm | hm
    · revert hm; decide
    · exact hno hm
  have htp : Lib.trimPrefix ([115, 114, 99, 32] ++ H) [115, 114, 99, 32] = H := by
    unfold Lib.trimPrefix
    rw [if_pos (by rfl)]
    rfl
  have hok : srcOk ([115, 114, 99, 32] ++ H) = true := by
    unfold srcOk
    rw [htp, hrd]
    rfl
  have hv : srcVal ([115, 114, 99, 32] ++ H) = src.data.toList := by
    unfold srcVal
    rw [htp, hrd]
  have hc := ((cutL_app ([115, 114, 99, 32] ++ H) (S.flatMap scanB)).2 hno2).1
  unfold readAll
  show readL (textB src S).length (textB src S) 1 [] [] = _
  rw [e]
  obtain ⟨g, hg⟩ : ∃ g, (([115, 114, 99, 32] ++ H) ++ 10 :: S.flatMap scanB).length = g + 1 := ⟨_, (Nat.sub_add_cancel (by simp)).symm⟩
  rw [hg]
  unfold readL
  rw [if_neg (by simp), hc]
  simp only
  rw [if_pos hok, hv, read_scans S h g _ _ _ (by rw [List.length_append, List.length_cons] at hg; omega)]
  rfl
/-- what is read may be written -/
def okV (v : Int × List Int) : Prop := isNum v.1 = true ∧ v.2.length ≤ 16 ∧ ∀ n ∈ v.2, isNum n = true
theorem numL_num {l : List UInt8} (h : (numL l).isSome = true) : isNum ((numL l).getD 0) = true := by
  unfold numL at *
  cases hn : numOf ⟨l.toArray⟩ with
  | none => rw [hn] at h; cases h
  | some n => exact (numOf_some hn).1
theorem scan_okV {s : ByteArray} (h : scanOk s = true) : okV (scanVal s) := by
  rw [scanOk_eq] at h
  rw [scanVal_eq]
  cases hw : splitL 32 s.data.toList with
  | nil => rw [hw] at h; cases h
  | cons w r =>
    rw [hw] at h
    unfold scanOkL at h
    simp only [Bool.and_eq_true, decide_eq_true_eq, List.all_eq_true] at h
    obtain ⟨⟨⟨-, h1⟩, h2⟩, h3⟩ := h
    cases r with
    | nil => simp at h1
    | cons a r =>
      refine ⟨numL_num (h3 a (by simp)), ?_, fun n hn => ?_⟩
      · show ((r.map fun x => (numL x).getD 0)).length ≤ 16
        simp at h2 ⊢
        omega
      · have hn : n ∈ r.map fun x => (numL x).getD 0 := hn
        obtain ⟨x, hx, rfl⟩ := List.mem_map.1 hn
        exact numL_num (h3 x (by simp [hx]))
theorem read_okV : ∀ (f : Nat) (cur : List UInt8) (n : Nat) (l l' : List UInt8) (T V : List (Int × List Int)), readL f cur n l T = .inr (l', V) → (∀ v ∈ T, okV v) → ∀ v ∈ V, okV v
  | 0, cur, n, l, l', T, V, h, hT => by
    have := Sum.inr.inj h
    simp at this
    rw [← this.2]
    exact hT
  | f + 1, cur, n, l, l', T, V, h, hT => by
    unfold readL at h
    split at h
    · have := Sum.inr.inj h
      simp at this
      rw [← this.2]
      exact hT
    · split at h
      · exact read_okV f _ _ _ _ _ _ h hT
      · split at h
        · rename_i hs
          refine read_okV f _ _ _ _ _ _ h fun v hv => ?_
          rcases List.mem_append.1 hv with hv | hv
          · exact hT v hv
          · simp at hv
            subst hv
            exact scan_okV hs
        · cases h
end Go.Proofs.YtjbagjmjbfiddaaGreatDoor
