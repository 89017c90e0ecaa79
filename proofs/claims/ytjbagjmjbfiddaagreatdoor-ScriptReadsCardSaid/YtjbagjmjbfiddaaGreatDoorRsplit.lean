/-
  The document's Split and Lines.
-/
import Derived.Test.YtjbagjmjbfiddaaGreatDoorRpure
namespace Go.Proofs.YtjbagjmjbfiddaaGreatDoor
open Go.ChangeShapes Go.WideShapes Go.ChangeAt Go.RowKit

def mkS (p : List UInt8) : Value := .string ⟨p.toArray⟩
theorem info9 : (Tryz.prog.info? 9).map (fun i => (i.zero, i.size, i.bytes)) = some (some (.string ⟨#[]⟩), 1, 16) := by kernel_rfl
theorem extract_mk (s : ByteArray) (a k : Nat) : s.extract a k = ⟨(((s.data.toList).drop a).take (k - a)).toArray⟩ := by
  rw [ByteArray.ext_iff]
  apply Array.toList_inj.1
  rw [Lib.extract_data]

set_option maxHeartbeats 2000000 in
set_option maxRecDepth 100000 in
theorem split_any (s : ByteArray) (c : UInt8) (hs : s.size ≤ 1000000) (B : Nat) (w : World) (hB : B ≤ w.heap.size) :
    Calls Tryz.prog 42 #[.string s, .int .u8 c.toNat] w fun e w' => ∃ v, e = .returned v ∧ w'.ownsRow B 9 1 v (splitL c s.data.toList).length ((splitL c s.data.toList).map mkS) ∧ (splitL c s.data.toList).length ≤ s.size + 1 ∧ Below B w w' := by
  obtain ⟨i00, hi, hz0, hz1, hz2⟩ := info_parts info9
  generalize hR : splitL c s.data.toList = R
  have HR := Lib.hid hR
  clear hR
  go_enter Tryz.func42, Tryz.ntmps42
  go_wp2_with fail
  go_loopw [5, 6, 7] (fun v av i wr => ∃ (k a : Nat) (D : List (List UInt8)), k ≤ s.size + 1 ∧ i = .int .i64 (k : Nat) ∧ av = .int .i64 (a : Nat) ∧ a ≤ k ∧ wr.ownsRow B 9 1 v D.length (D.map mkS) ∧ D.length ≤ k ∧ ((k ≤ s.size ∧ R = D ++ splitL c (s.data.toList.drop a) ∧ c ∉ (s.data.toList.drop a).take (k - a)) ∨ (k = s.size + 1 ∧ D = R)) ∧ Below B w wr) (fun _ _ i _ => s.size + 1 - (intOf i).toNat)
  case atStart => exact ⟨0, 0, [], Nat.zero_le _, rfl, rfl, Nat.le_refl _, World.ownsRow_nil _ _ _ _, Nat.le_refl _, .inl ⟨Nat.zero_le _, by rw [← HR.out]; rfl, by simp⟩, Below.refl _ _⟩
  case round =>
    obtain ⟨k, a, D, hk, rfl, rfl, hak, hown, hD, hst, hb⟩ := hrel
    have HO := Lib.hid hown
    have HB := Lib.hid hb
    have HST := Lib.hid hst
    have hzz := hb.size
    clear hown hb hst
    by_cases hkl : k ≤ s.size
    · have i0 : (k : Int) ≤ (s.size : Int) := by omega
      have i1 : (0 : Int) ≤ (k : Int) := by omega
      have i2 : (a : Int) ≤ (k : Int) := by omega
      have i3 : (0 : Int) ≤ (a : Int) := by omega
      obtain ⟨hR1, hno⟩ : R = D ++ splitL c (s.data.toList.drop a) ∧ c ∉ (s.data.toList.drop a).take (k - a) := HST.out.elim (fun h => h.2) (fun h => absurd h.1 (by omega))
      obtain ⟨p, hp⟩ : ∃ p, (s.data.toList.drop a).take (k - a) = p := ⟨_, rfl⟩
      have hpe : s.extract a k = ⟨p.toArray⟩ := by rw [extract_mk, hp]
      have hl : s.data.toList.length = s.size := rfl
      by_cases hke : k = s.size
      · subst hke
        have hfin : D ++ [p] = R := by
          rw [hR1]
          congr 1
          have : p = s.data.toList.drop a := by rw [← hp]; exact List.take_of_length_le (by rw [List.length_drop]; omega)
          rw [this] at hp ⊢
          rw [hp] at hno
          exact (splitL_miss hno).symm
        have HF := Lib.hid hfin
        clear hfin hno hR1 hp
        have HE2 := Lib.hid hpe
        go_wp2_with (at_builtin; refine wpList_append_own _ rfl (.tmp 25) (.tmp 30) 66 rfl B 9 i00 (.string ⟨#[]⟩) 1 16 Tryz.underlying66 hi hz0 hz1 hz2 rfl (by decide) _ _ _ rfl (HO.out.alloc _) ⟨wr.heap.size, 0, none⟩ 1 1 [mkS p] rfl rfl ?c1 ?c2 ?c3 ?c4 ?c5 ?_)
        case c1 =>
          intro j u hj
          match j, hj with
          | 0, hj => simp at hj; subst hj; exact cell_last
        case c2 => intro u hu; simp at hu; subst hu; rfl
        case c3 => unfold maxLen; omega
        case c4 => omega
        case c5 => simp; omega
        intro v' w1 hown1 hgrow _
        have h1 := (HB.out.alloc (Nat.le_trans hB hzz) (.cells #[mkS p] 9)).grown hgrow (by simp; omega) (own_base HO.out)
        have H1 := Lib.hid h1
        have H2 := Lib.hid hown1
        clear hown1 hgrow h1
        go_wp2_with fail
        exact ⟨⟨s.size + 1, s.size + 1, D ++ [p], by omega, by go_num, by go_num, Nat.le_refl _, by rw [List.length_append, List.map_append]; exact H2.out, by rw [List.length_append]; simp; try omega, .inr ⟨by omega, HF.out⟩, H1.out⟩, by simp [intOf] <;> omega⟩
      · have hkl2 : k < s.size := by omega
        have b0 : ((k : Int) == (s.size : Int)) = false := by simp; omega
        have j0 : (k : Int) < (s.size : Int) := by omega
        have hkt : ((k : Int)).toNat = k := by omega
        have hsplit : s.data.toList.drop a = p ++ (s[k]'hkl2) :: s.data.toList.drop (k + 1) := by
          rw [← hp]
          have e1 : (s.data.toList.drop a).drop (k - a) = (s[k]'hkl2) :: s.data.toList.drop (k + 1) := by
            rw [List.drop_drop, show a + (k - a) = k by omega, List.drop_eq_getElem_cons (by rw [hl]; exact hkl2)]
            rfl
          rw [← e1, List.take_append_drop]
        by_cases hc : (s[k]'hkl2) = c
        · have b1 : ((((s[k]'hkl2).toNat : Nat) : Int) == (c.toNat : Int)) = true := by rw [hc]; simp
          have hnew : R = (D ++ [p]) ++ splitL c (s.data.toList.drop (k + 1)) := by
            rw [hp] at hno
            rw [hR1, hsplit, hc, splitL_hit _ hno]
            simp
          have HN := Lib.hid hnew
          clear hnew hno hR1 hp hsplit hc
          go_wp2_with (at_builtin; refine wpList_append_own _ rfl (.tmp 25) (.tmp 30) 66 rfl B 9 i00 (.string ⟨#[]⟩) 1 16 Tryz.underlying66 hi hz0 hz1 hz2 rfl (by decide) _ _ _ rfl (HO.out.alloc _) ⟨wr.heap.size, 0, none⟩ 1 1 [mkS p] rfl rfl ?c1 ?c2 ?c3 ?c4 ?c5 ?_)
          case c1 =>
            intro j u hj
            match j, hj with
            | 0, hj => simp at hj; subst hj; exact cell_last
          case c2 => intro u hu; simp at hu; subst hu; rfl
          case c3 => unfold maxLen; omega
          case c4 => omega
          case c5 => simp; omega
          intro v' w1 hown1 hgrow _
          have h1 := (HB.out.alloc (Nat.le_trans hB hzz) (.cells #[mkS p] 9)).grown hgrow (by simp; omega) (own_base HO.out)
          have H1 := Lib.hid h1
          have H2 := Lib.hid hown1
          clear hown1 hgrow h1
          go_wp2_with fail
          exact ⟨⟨k + 1, k + 1, D ++ [p], by omega, by go_num, by go_num, Nat.le_refl _, by rw [List.length_append, List.map_append]; exact H2.out, by rw [List.length_append]; simp; omega, .inl ⟨by omega, HN.out, by simp⟩, H1.out⟩, by simp [intOf]; omega⟩
        · have b1 : ((((s[k]'hkl2).toNat : Nat) : Int) == (c.toNat : Int)) = false := by
            rw [← Bool.not_eq_true]
            intro h
            have h := beq_iff_eq.1 h
            exact hc (UInt8.toNat_inj.1 (by omega))
          have hno2 : c ∉ (s.data.toList.drop a).take (k + 1 - a) := by
            rw [hp] at hno
            have hpl : p.length = k - a := by rw [← hp, List.length_take, List.length_drop]; omega
            rw [hsplit, List.take_append, List.take_of_length_le (by omega), show k + 1 - a - p.length = 1 by omega]
            intro hm
            rcases List.mem_append.1 hm with hm | hm
            · exact hno hm
            · simp at hm; exact hc hm.symm
          have HN := Lib.hid hno2
          have HR1 := Lib.hid hR1
          clear hno2 hno hR1 hp hsplit hc hpe
          go_wp2_with fail
          exact ⟨⟨k + 1, a, D, by omega, by go_num, rfl, by omega, HO.out, by omega, .inl ⟨by omega, HR1.out, HN.out⟩, HB.out⟩, by simp [intOf]; omega⟩
    · have hk1 : k = s.size + 1 := by omega
      have hDR : D = R := HST.out.elim (fun h => absurd h.1 hkl) (fun h => h.2)
      have i0 : decide ((k : Int) ≤ (s.size : Int)) = false := decide_eq_false (by omega)
      subst hDR
      go_wp2_with fail
      go_ret
      exact ⟨_, rfl, HO.out, by omega, HB.out⟩
end Go.Proofs.YtjbagjmjbfiddaaGreatDoor
