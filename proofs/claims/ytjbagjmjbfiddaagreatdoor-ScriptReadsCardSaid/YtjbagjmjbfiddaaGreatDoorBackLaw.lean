/-
  ScriptBack: the walk.
-/
import Derived.Test.YtjbagjmjbfiddaaGreatDoorInv2
import Derived.Test.YtjbagjmjbfiddaaGreatDoorSame2
import Derived.Test.YtjbagjmjbfiddaaGreatDoorPrintsN
import Derived.Test.YtjbagjmjbfiddaaGreatDoorPrintsLaw
namespace Go.Proofs.YtjbagjmjbfiddaaGreatDoor
open Go.ChangeShapes Go.WideShapes Go.ChangeAt Go.RowKit

theorem printOf_ok {src : ByteArray} {S : List ScA} (h : (printOf src S).2 = 0) : (textB src S).length ≤ 65536 ∧ (printOf src S).1 = textB src S := by
  unfold printOf at *
  split at h
  · split at h
    · cases h
    · rename_i h1 h2
      rw [if_pos h1, if_neg h2]
      exact ⟨by omega, rfl⟩
  · cases h
theorem printOf_all {src : ByteArray} {S : List ScA} (h : (printOf src S).2 = 0) : S.all mayOf = true := by
  unfold printOf at h
  split at h
  · rename_i h1; exact h1
  · cases h
theorem printOf_no {src : ByteArray} {S : List ScA} (h : (printOf src S).2 ≠ 0) : (printOf src S).1 = [] := by
  unfold printOf at *
  split at h
  · rename_i h1
    rw [if_pos h1]
    split at h
    · rename_i h2; rw [if_pos h2]
    · exact absurd rfl h
  · rename_i h1; rw [if_neg h1]
theorem printOf_full {src : ByteArray} {S : List ScA} (hf : ∀ x ∈ S, Fine x) (h : (printOf src S).2 ≠ 0) : (printOf src S).2 = 24 ∧ (printOf src S).1 = [] := by
  refine ⟨?_, printOf_no h⟩
  have ha : S.all mayOf = true := List.all_eq_true.2 fun x hx => (hf x hx).1
  unfold printOf at *
  rw [if_pos ha] at h ⊢
  split at h
  · rename_i h2; rw [if_pos h2]
  · exact absurd rfl h
theorem scans_len {w : World} {A : Option Addr} {S : List ScA} (h : Scans w A S) {i : Nat} {x : ScA} (hx : S[i]? = some x) : x.ns.length = x.l := by
  have hi : i < S.length := (List.getElem?_eq_some_iff.1 hx).1
  obtain ⟨b, o, _, hc⟩ := h (by omega)
  exact (hc i x hx).2.2.1
theorem vals_le {w w' : World} {A B : Option Addr} {S T : List ScA} (hS : Scans w A S) (hT : Scans w' B T) (hv : S.map val = T.map val) (k : Nat) (h : ∀ (i : Nat) (y : ScA), T[i]? = some y → y.l ≤ k) (i : Nat) (x : ScA) (hx : S[i]? = some x) : x.l ≤ k := by
  have h1 := congrArg (fun m => m[i]?) hv
  simp only [List.getElem?_map, hx, Option.map_some] at h1
  cases hy : T[i]? with
  | none => rw [hy] at h1; cases h1
  | some y =>
    rw [hy] at h1
    have h2 : val x = val y := Option.some.inj h1
    simp only [val, Prod.mk.injEq] at h2
    have := scans_len hS hx
    have := scans_len hT hy
    have := h i y hy
    rw [h2.2] at *
    omega
theorem fine_of {w : World} {A : Option Addr} {S : List ScA} (h : Scans w A S) (hv : ∀ v ∈ S.map val, okV v) : ∀ x ∈ S, Fine x := by
  intro x hx
  obtain ⟨i, hi, rfl⟩ := List.getElem_of_mem hx
  have hl := scans_len h (List.getElem?_eq_getElem hi)
  obtain ⟨h1, h2, h3⟩ := hv _ (List.mem_map.2 ⟨_, hx, rfl⟩)
  refine ⟨?_, hl⟩
  unfold mayOf
  simp only [Bool.and_eq_true, decide_eq_true_eq, List.all_eq_true]
  exact ⟨⟨by have : (S[i]).ns.length ≤ 16 := h2; omega, h1⟩, h3⟩

set_option maxHeartbeats 4000000 in
set_option maxRecDepth 100000 in
theorem back_any (src : ByteArray) (A : Option Addr) (len cap : Nat) (S : List ScA) (hS : S.length = len) (hm : len ≤ maxLen) (s : ByteArray) (w : World) (hE : Env2 w) (h : Scans w A S) :
    Calls Tryz.prog 5 #[.string src, .slice A len cap, .string s] w fun e w' => e = .returned (.bool true) ∧ Below w.heap.size w w' := by
  have h9 := hE.size
  have HE := Lib.hid hE
  have HS := Lib.hid h
  clear hE h
  by_cases hb : 20000 < src.size
  · have d0 : decide ((20000 : Int) < (src.size : Int)) = true := decide_eq_true (by omega)
    go_enter Tryz.func5, Tryz.ntmps5
    go_wp2_with (go_at_call 8; refine (awake_any w HE.out.toEnv).mono ?_)
    first | rintro e W1 rfl hb1 | rintro e W1 ⟨rfl, hb1⟩
    have HB1 := Lib.hid hb1
    clear hb1
    go_wp2_with fail
    go_ret
    exact ⟨rfl, HB1.out⟩
  · have d0 : decide ((20000 : Int) < (src.size : Int)) = false := decide_eq_false (by omega)
    have hgr := great_any A len cap S hS hm w HS.out
    go_enter Tryz.func5, Tryz.ntmps5
    go_wp2_with (go_at_call 7; refine hgr.mono ?_)
    rintro e w' ⟨gb, rfl, hgb, rfl⟩
    clear hgr
    cases gb with
    | true =>
      clear hgb
      go_wp2_with (go_at_call 8; refine (awake_any _ HE.out.toEnv).mono ?_)
      first | rintro e W1 rfl hb1 | rintro e W1 ⟨rfl, hb1⟩
      have HB1 := Lib.hid hb1
      clear hb1
      go_wp2_with fail
      go_ret
      exact ⟨rfl, HB1.out⟩
    | false =>
      obtain ⟨h40, h20⟩ := hgb rfl
      clear hgb
      have H20 := Lib.hid h20
      clear h20
      by_cases hbs : 20000 < s.size
      · have d1 : decide ((20000 : Int) < (s.size : Int)) = true := decide_eq_true (by omega)
        go_wp2_with (go_at_call 8; refine (awake_any _ HE.out.toEnv).mono ?_)
        first | rintro e W1 rfl hb1 | rintro e W1 ⟨rfl, hb1⟩
        have HB1 := Lib.hid hb1
        clear hb1
        go_wp2_with fail
        go_ret
        exact ⟨rfl, HB1.out⟩
      · have d1 : decide ((20000 : Int) < (s.size : Int)) = false := decide_eq_false (by omega)
        have hp := print_any src (by omega) A len cap S hS h40 H20.out w' HE.out.toEnv HS.out
        go_wp2_with (go_at_call 9; refine hp.mono ?_)
        clear hp
        rintro e W1 ⟨hpr, hb1⟩
        have HB1 := Lib.hid hb1
        have hs1 := hb1.size
        unfold Printed at hpr
        rcases hpr with ⟨h0, rfl⟩ | ⟨h0, g, rfl, hg⟩
        · obtain ⟨hlen, htx⟩ := printOf_ok h0
          have hall := printOf_all h0
          have hfine : ∀ x ∈ S, Fine x := fun x hx => ⟨List.all_eq_true.1 hall x hx, by obtain ⟨i, hi, rfl⟩ := List.getElem_of_mem hx; exact scans_len HS.out (List.getElem?_eq_getElem hi)⟩
          simp only [htx]
          have hrt := read_text src S hfine
          obtain ⟨sb, hsb⟩ : ∃ sb : ByteArray, (⟨(textB src S).toArray⟩ : ByteArray) = sb := ⟨_, rfl⟩
          have hsz : sb.size ≤ 65536 := by rw [← hsb, mk_size]; exact hlen
          simp only [hsb] at hrt ⊢
          have hpp := parse_all sb hsz W1 (HE.out.keep HB1.out h9)
          rw [hrt] at hpp
          have HPP := Lib.hid hpp
          have HSk := Lib.hid (HS.out.keep hb1)
          clear hlen htx hrt hsb hpp h0 hb1 hall hfine
          have hpp := HPP.out
          go_wp2_with (go_at_call 12; refine hpp.mono ?_)
          clear hpp
          rintro e W2 ⟨hpo, hb2⟩
          rcases hpo with ⟨n, g, hno, -, -⟩ | ⟨l1, S1, ao1, cp1, hrd1, rfl, hsc1, hl1, hs1'⟩
          · cases hno
          · have hrd1 := Sum.inr.inj hrd1
            simp only [Prod.mk.injEq] at hrd1
            obtain ⟨hl1e, hv1⟩ := hrd1
            have HB2 := Lib.hid (HB1.out.trans (hb2.mono hs1))
            have hs2 := HB2.out.size
            have hl12 : S1.length = len := by have := congrArg List.length hv1; simp at this; omega
            have hsame := scans_same ao1 A len cp1 cap S1 S W2 hsc1 (HSk.out.keep hb2) hl12 hS hv1.symm (by omega) (fun i x hx => by have h20 := vals_le hsc1 HSk.out hv1.symm 20 H20.out i x hx; omega)
            have hse : (⟨l1.toArray⟩ : ByteArray) = src := by rw [← hl1e]
            rw [hse, hl12]
            have hee : (src.toList == src.toList) = true := by simp
            have HSA := Lib.hid hsame
            clear hsame hl1e hv1 hse hsc1 hb2 hl12
            have hsame := HSA.out
            go_wp2_with (go_at_call 15; refine hsame.mono ?_)
            clear hsame
            rintro e W3 ⟨rfl, q, hq⟩
            have HB3 := Lib.hid (show Below w'.heap.size w' W3 by rw [hq]; exact below_drew HB2.out q)
            have hs3 := HB3.out.size
            clear hq hee
            have HP3 := Lib.hid (parse_all s (by omega) W3 (HE.out.keep HB3.out h9))
            go_wp2_with (go_at_call 12; refine HP3.out.mono ?_)
            rintro e X1 ⟨hpo, hb⟩
            have HX1 := Lib.hid (HB3.out.trans (hb.mono hs3))
            have hx1 := HX1.out.size
            clear hb
            rcases hpo with ⟨n, g, -, rfl, -⟩ | ⟨l, S2, ao2, cp2, hrd, rfl, hsc2, hl2, hs2⟩
            · go_wp2_with (go_at_call 8; refine (awake_any X1 (HE.out.toEnv.keep HX1.out h9)).mono ?_)
              first | rintro e X2 rfl hb2 | rintro e X2 ⟨rfl, hb2⟩
              have HX2 := Lib.hid (HX1.out.trans (hb2.mono hx1))
              clear hb2
              go_wp2_with fail
              go_ret
              exact ⟨rfl, HX2.out⟩
            · have hfine := fine_of hsc2 (read_okV _ _ _ _ _ _ _ hrd (fun v hv => by cases hv))
              have HF := Lib.hid hfine
              have hp2 := print_many ⟨l.toArray⟩ (by rw [mk_size]; omega) ao2 S2.length cp2 S2 rfl (by omega) (fun j x hx => by have := (hfine x (List.mem_of_getElem? hx)).nums.2.1; have := (hfine x (List.mem_of_getElem? hx)).2; omega) X1 (HE.out.toEnv.keep HX1.out h9) hsc2
              have HP2 := Lib.hid hp2
              have HS2 := Lib.hid hsc2
              clear hfine hp2 hsc2 hrd
              obtain ⟨sa, hsa⟩ : ∃ sa : ByteArray, (⟨l.toArray⟩ : ByteArray) = sa := ⟨_, rfl⟩
              have hla : l = sa.data.toList := by rw [← hsa]
              simp only [hsa] at HP2 ⊢
              clear hsa
              have hp2 := HP2.out
              go_wp2_with (go_at_call 9; refine hp2.mono ?_)
              clear hp2
              rintro e X2 ⟨hpr2, hb2⟩
              have HX2 := Lib.hid (HX1.out.trans (hb2.mono hx1))
              have hx2 := HX2.out.size
              have HS3 := Lib.hid (HS2.out.keep hb2)
              unfold Printed at hpr2
              rcases hpr2 with ⟨h0, rfl⟩ | ⟨h0, g, rfl, hg⟩
              · obtain ⟨hlen, htx⟩ := printOf_ok h0
                simp only [htx]
                have hrt := read_text sa S2 HF.out
                obtain ⟨sb, hsb⟩ : ∃ sb : ByteArray, (⟨(textB sa S2).toArray⟩ : ByteArray) = sb := ⟨_, rfl⟩
                have hsz : sb.size ≤ 65536 := by rw [← hsb, mk_size]; exact hlen
                simp only [hsb] at hrt ⊢
                have hpp := parse_all sb hsz X2 (HE.out.keep HX2.out h9)
                rw [hrt] at hpp
                have HPP := Lib.hid hpp
                clear hlen htx hrt hsb hpp h0 hb2
                have hpp := HPP.out
                go_wp2_with (go_at_call 12; refine hpp.mono ?_)
                clear hpp
                rintro e X3 ⟨hpo3, hb3⟩
                rcases hpo3 with ⟨n, g, hno, -, -⟩ | ⟨l3, S3, ao3, cp3, hrd3, rfl, hsc3, hl3, hs3⟩
                · cases hno
                · have hrd3 := Sum.inr.inj hrd3
                  simp only [Prod.mk.injEq] at hrd3
                  obtain ⟨hl3e, hv3⟩ := hrd3
                  have HX3 := Lib.hid (HX2.out.trans (hb3.mono hx2))
                  have hx3 := HX3.out.size
                  have hl32 : S3.length = S2.length := by have := congrArg List.length hv3; simpa using this.symm
                  have hsame := scans_same ao3 ao2 S2.length cp3 cp2 S3 S2 X3 hsc3 (HS3.out.keep hb3) hl32 rfl hv3.symm (by omega) (fun i x hx => by have h20 := vals_le hsc3 HS2.out hv3.symm 20 (fun i y hy => by have := (HF.out y (List.mem_of_getElem? hy)).nums.2.1; have := (HF.out y (List.mem_of_getElem? hy)).2; omega) i x hx; omega)
                  have hse : (⟨l3.toArray⟩ : ByteArray) = sa := by rw [← hl3e]
                  rw [hse, hl32]
                  have hee : (sa.toList == sa.toList) = true := by simp
                  have HSA := Lib.hid hsame
                  clear hsame hl3e hv3 hse hsc3 hb3 hl32
                  have hsame := HSA.out
                  go_wp2_with (go_at_call 15; refine hsame.mono ?_)
                  clear hsame
                  rintro e X4 ⟨rfl, q, hq⟩
                  have HX4 := Lib.hid (show Below w'.heap.size w' X4 by rw [hq]; exact below_drew HX3.out q)
                  have hx4 := HX4.out.size
                  clear hq
                  go_wp2_with (go_at_call 8; refine (awake_any X4 (HE.out.toEnv.keep HX4.out h9)).mono ?_)
                  first | rintro e X5 rfl hb5 | rintro e X5 ⟨rfl, hb5⟩
                  have HX5 := Lib.hid (HX4.out.trans (hb5.mono hx4))
                  clear hb5
                  go_wp2_with fail
                  go_ret
                  exact ⟨rfl, HX5.out⟩
              · obtain ⟨hc24, htx⟩ := printOf_full HF.out h0
                rw [hc24] at hg
                simp only [htx]
                have HG := Lib.hid hg
                have hpp := parse_all ⟨#[]⟩ (by decide) X2 (HE.out.keep HX2.out h9)
                have HPP := Lib.hid hpp
                clear hpp h0 htx hc24 hg hb2
                have hpp := HPP.out
                go_wp2_with (go_at_call 12; refine hpp.mono ?_)
                clear hpp
                rintro e X3 ⟨hpo3, hb3⟩
                have HG3 := Lib.hid ((hb3.block g (heap_lt HG.out)).trans HG.out)
                have HX3 := Lib.hid (HX2.out.trans (hb3.mono hx2))
                have hx3 := HX3.out.size
                clear hb3
                rcases hpo3 with ⟨n, g', -, rfl, -⟩ | ⟨l3, S3, ao3, cp3, -, rfl, -, -, -⟩
                all_goals
                  go_wp2_with (go_at_call 11; refine (code_err 24 g X3 (HE.out.toEnv.keep HX3.out h9) HG3.out).mono ?_)
                  first | rintro e X4 rfl hb4 | rintro e X4 ⟨rfl, hb4⟩
                  have HX4 := Lib.hid (HX3.out.trans (hb4.mono hx3))
                  have hx4 := HX4.out.size
                  clear hb4
                  go_wp2_with (go_at_call 8; refine (awake_any X4 (HE.out.toEnv.keep HX4.out h9)).mono ?_)
                  first | rintro e X5 rfl hb5 | rintro e X5 ⟨rfl, hb5⟩
                  have HX5 := Lib.hid (HX4.out.trans (hb5.mono hx4))
                  clear hb5
                  go_wp2_with fail
                  go_ret
                  exact ⟨rfl, HX5.out⟩
        · have htx := printOf_no h0
          simp only [htx]
          clear h0 hg htx hb1
          have HP3 := Lib.hid (parse_all s (by omega) W1 (HE.out.keep HB1.out h9))
          go_wp2_with (go_at_call 12; refine HP3.out.mono ?_)
          rintro e X1 ⟨hpo, hb⟩
          have HX1 := Lib.hid (HB1.out.trans (hb.mono hs1))
          have hx1 := HX1.out.size
          clear hb
          rcases hpo with ⟨n, g, -, rfl, -⟩ | ⟨l, S2, ao2, cp2, hrd, rfl, hsc2, hl2, hs2⟩
          · go_wp2_with (go_at_call 8; refine (awake_any X1 (HE.out.toEnv.keep HX1.out h9)).mono ?_)
            first | rintro e X2 rfl hb2 | rintro e X2 ⟨rfl, hb2⟩
            have HX2 := Lib.hid (HX1.out.trans (hb2.mono hx1))
            clear hb2
            go_wp2_with fail
            go_ret
            exact ⟨rfl, HX2.out⟩
          · have hfine := fine_of hsc2 (read_okV _ _ _ _ _ _ _ hrd (fun v hv => by cases hv))
            have HF := Lib.hid hfine
            have hp2 := print_many ⟨l.toArray⟩ (by rw [mk_size]; omega) ao2 S2.length cp2 S2 rfl (by omega) (fun j x hx => by have := (hfine x (List.mem_of_getElem? hx)).nums.2.1; have := (hfine x (List.mem_of_getElem? hx)).2; omega) X1 (HE.out.toEnv.keep HX1.out h9) hsc2
            have HP2 := Lib.hid hp2
            have HS2 := Lib.hid hsc2
            clear hfine hp2 hsc2 hrd
            obtain ⟨sa, hsa⟩ : ∃ sa : ByteArray, (⟨l.toArray⟩ : ByteArray) = sa := ⟨_, rfl⟩
            have hla : l = sa.data.toList := by rw [← hsa]
            simp only [hsa] at HP2 ⊢
            clear hsa
            have hp2 := HP2.out
            go_wp2_with (go_at_call 9; refine hp2.mono ?_)
            clear hp2
            rintro e X2 ⟨hpr2, hb2⟩
            have HX2 := Lib.hid (HX1.out.trans (hb2.mono hx1))
            have hx2 := HX2.out.size
            have HS3 := Lib.hid (HS2.out.keep hb2)
            unfold Printed at hpr2
            rcases hpr2 with ⟨h0, rfl⟩ | ⟨h0, g, rfl, hg⟩
            · obtain ⟨hlen, htx⟩ := printOf_ok h0
              simp only [htx]
              have hrt := read_text sa S2 HF.out
              obtain ⟨sb, hsb⟩ : ∃ sb : ByteArray, (⟨(textB sa S2).toArray⟩ : ByteArray) = sb := ⟨_, rfl⟩
              have hsz : sb.size ≤ 65536 := by rw [← hsb, mk_size]; exact hlen
              simp only [hsb] at hrt ⊢
              have hpp := parse_all sb hsz X2 (HE.out.keep HX2.out h9)
              rw [hrt] at hpp
              have HPP := Lib.hid hpp
              clear hlen htx hrt hsb hpp h0 hb2
              have hpp := HPP.out
              go_wp2_with (go_at_call 12; refine hpp.mono ?_)
              clear hpp
              rintro e X3 ⟨hpo3, hb3⟩
              rcases hpo3 with ⟨n, g, hno, -, -⟩ | ⟨l3, S3, ao3, cp3, hrd3, rfl, hsc3, hl3, hs3⟩
              · cases hno
              · have hrd3 := Sum.inr.inj hrd3
                simp only [Prod.mk.injEq] at hrd3
                obtain ⟨hl3e, hv3⟩ := hrd3
                have HX3 := Lib.hid (HX2.out.trans (hb3.mono hx2))
                have hx3 := HX3.out.size
                have hl32 : S3.length = S2.length := by have := congrArg List.length hv3; simpa using this.symm
                have hsame := scans_same ao3 ao2 S2.length cp3 cp2 S3 S2 X3 hsc3 (HS3.out.keep hb3) hl32 rfl hv3.symm (by omega) (fun i x hx => by have h20 := vals_le hsc3 HS2.out hv3.symm 20 (fun i y hy => by have := (HF.out y (List.mem_of_getElem? hy)).nums.2.1; have := (HF.out y (List.mem_of_getElem? hy)).2; omega) i x hx; omega)
                have hse : (⟨l3.toArray⟩ : ByteArray) = sa := by rw [← hl3e]
                rw [hse, hl32]
                have hee : (sa.toList == sa.toList) = true := by simp
                have HSA := Lib.hid hsame
                clear hsame hl3e hv3 hse hsc3 hb3 hl32
                have hsame := HSA.out
                go_wp2_with (go_at_call 15; refine hsame.mono ?_)
                clear hsame
                rintro e X4 ⟨rfl, q, hq⟩
                have HX4 := Lib.hid (show Below w'.heap.size w' X4 by rw [hq]; exact below_drew HX3.out q)
                have hx4 := HX4.out.size
                clear hq
                go_wp2_with (go_at_call 8; refine (awake_any X4 (HE.out.toEnv.keep HX4.out h9)).mono ?_)
                first | rintro e X5 rfl hb5 | rintro e X5 ⟨rfl, hb5⟩
                have HX5 := Lib.hid (HX4.out.trans (hb5.mono hx4))
                clear hb5
                go_wp2_with fail
                go_ret
                exact ⟨rfl, HX5.out⟩
            · obtain ⟨hc24, htx⟩ := printOf_full HF.out h0
              rw [hc24] at hg
              simp only [htx]
              have HG := Lib.hid hg
              have hpp := parse_all ⟨#[]⟩ (by decide) X2 (HE.out.keep HX2.out h9)
              have HPP := Lib.hid hpp
              clear hpp h0 htx hc24 hg hb2
              have hpp := HPP.out
              go_wp2_with (go_at_call 12; refine hpp.mono ?_)
              clear hpp
              rintro e X3 ⟨hpo3, hb3⟩
              have HG3 := Lib.hid ((hb3.block g (heap_lt HG.out)).trans HG.out)
              have HX3 := Lib.hid (HX2.out.trans (hb3.mono hx2))
              have hx3 := HX3.out.size
              clear hb3
              rcases hpo3 with ⟨n, g', -, rfl, -⟩ | ⟨l3, S3, ao3, cp3, -, rfl, -, -, -⟩
              all_goals
                go_wp2_with (go_at_call 11; refine (code_err 24 g X3 (HE.out.toEnv.keep HX3.out h9) HG3.out).mono ?_)
                first | rintro e X4 rfl hb4 | rintro e X4 ⟨rfl, hb4⟩
                have HX4 := Lib.hid (HX3.out.trans (hb4.mono hx3))
                have hx4 := HX4.out.size
                clear hb4
                go_wp2_with (go_at_call 8; refine (awake_any X4 (HE.out.toEnv.keep HX4.out h9)).mono ?_)
                first | rintro e X5 rfl hb5 | rintro e X5 ⟨rfl, hb5⟩
                have HX5 := Lib.hid (HX4.out.trans (hb5.mono hx4))
                clear hb5
                go_wp2_with fail
                go_ret
                exact ⟨rfl, HX5.out⟩
end Go.Proofs.YtjbagjmjbfiddaaGreatDoor
