/-
  The document's Print: the walk.
-/
import Derived.Test.YtjbagjmjbfiddaaGreatDoorPrints
namespace Go.Proofs.YtjbagjmjbfiddaaGreatDoor
open Go.ChangeShapes Go.WideShapes Go.ChangeAt Go.RowKit

theorem numB_len {n : Int} (h : isNum n = true) : (numB n).length ≤ 12 := by
  have := itoa_len h
  unfold numB
  simp
  omega

set_option maxHeartbeats 4000000 in
set_option maxRecDepth 100000 in
theorem rprint_any (src : ByteArray) (hs : src.size ≤ 40000) (A : Option Addr) (len cap : Nat) (S : List ScA) (hS : S.length = len) (h40 : len ≤ 40) (h20 : ∀ (j : Nat) (x : ScA), S[j]? = some x → x.l ≤ 20) (W : World) (h : Scans W A S) :
    Calls Tryz.prog 10 #[.string src, .slice A len cap] W fun e w' => e = .returned (.tuple #[.string ⟨(printOf src S).1.toArray⟩, .int .i64 (printOf src S).2]) ∧ Below W.heap.size W w' := by
  have HS := Lib.hid h
  have H20 := Lib.hid h20
  clear h h20
  generalize hP : printOf src S = P
  have HP := Lib.hid hP
  clear hP
  have hxs : (hexOf src).size ≤ 80001 := by
    unfold hexOf
    split
    · decide
    · rw [mk_size, hexes_len]; omega
  have hhx := rhex_any src (by omega) W.heap.size W (Nat.le_refl _)
  obtain ⟨hx, hhd⟩ : ∃ hx, hexOf src = hx := ⟨_, rfl⟩
  rw [hhd] at hhx hxs
  have hhead : headB src = ((⟨#[115, 114, 99, 32]⟩ ++ hx ++ ⟨#[10]⟩ : ByteArray)).data.toList := by unfold headB; rw [hhd]; simp
  have HHEAD := Lib.hid hhead
  clear hhead hhd
  go_enter Tryz.func10, Tryz.ntmps10
  go_wp2_with (go_at_call 20; refine hhx.mono ?_)
  first | rintro e W1 rfl hb1 | rintro e W1 ⟨rfl, hb1⟩
  have HB1 := Lib.hid hb1
  have hsz1 := HB1.out.size
  clear hb1 hhx
  have hss : (⟨#[115, 114, 99, 32]⟩ ++ hx ++ ⟨#[10]⟩ : ByteArray).size = hx.size + 5 := by rw [ByteArray.size_append, ByteArray.size_append]; show 4 + hx.size + 1 = _; omega
  have HSS := Lib.hid hss
  clear hss
  have kc := fun s => Lib.run_convert_string_bytes (P := Tryz.prog) W1 9 49 5 s Tryz.underlying9 Tryz.underlying49 Tryz.underlying5
  go_wp2_with fail
  have htr := trow_bytes (w := W1) (s := (⟨#[115, 114, 99, 32]⟩ ++ hx ++ ⟨#[10]⟩ : ByteArray)) (A := W.heap.size) hsz1 (by rw [HSS.out]; omega)
  rw [show (⟨#[115, 114, 99, 32]⟩ ++ hx ++ ⟨#[10]⟩ : ByteArray).size = 4 + hx.size + 1 by rw [HSS.out]; omega] at htr
  have hcells : Lib.strCells (⟨#[115, 114, 99, 32]⟩ ++ hx ++ ⟨#[10]⟩ : ByteArray) = Lib.byteCells (headB src) := by rw [HHEAD.out]; rfl
  rw [hcells] at htr
  have hhl : (headB src).length ≤ 80006 := by
    rw [HHEAD.out]
    show (⟨#[115, 114, 99, 32]⟩ ++ hx ++ ⟨#[10]⟩ : ByteArray).size ≤ _
    rw [HSS.out]; omega
  have hbb := below_bytes HB1.out hsz1 (⟨#[115, 114, 99, 32]⟩ ++ hx ++ ⟨#[10]⟩ : ByteArray)
  generalize Lib.bytesWorld W1 5 (⟨#[115, 114, 99, 32]⟩ ++ hx ++ ⟨#[10]⟩ : ByteArray) = W2 at *
  generalize (⟨#[115, 114, 99, 32]⟩ ++ hx ++ ⟨#[10]⟩ : ByteArray) = hsrc at *
  generalize Value.slice (some ⟨W1.heap.size, 0, none⟩) (4 + hx.size + 1) (grownCap W1 (4 + hx.size + 1) 0 5) = v0 at *
  clear kc hcells
  go_loopw [6, 7] (fun v i wr => ∃ j : Nat, j ≤ len ∧ i = .int .i64 (j : Nat) ∧ TRow wr W.heap.size v (Lib.byteCells (headB src ++ (S.take j).flatMap scanB)) ∧ (headB src ++ (S.take j).flatMap scanB).length ≤ 80006 + 300 * j ∧ (∀ (i : Nat) (x : ScA), i < j → S[i]? = some x → mayOf x = true) ∧ Below W.heap.size W wr) (fun _ i _ => len - (intOf i).toNat)
  case atStart => exact ⟨0, Nat.zero_le _, rfl, by simpa using htr, by simp; omega, fun i x hi => absurd hi (Nat.not_lt_zero i), hbb⟩
  case round =>
    clear htr hbb
    obtain ⟨j, hj, rfl, htr, hbd, hgd, hb⟩ := hrel
    have hszr := hb.size
    obtain ⟨g, tcap, rfl, hAg, hgl, -⟩ := trow_cells htr
    obtain ⟨pre, hpre⟩ : ∃ pre, headB src ++ (S.take j).flatMap scanB = pre := ⟨_, rfl⟩
    rw [hpre] at htr hbd ⊢
    have hbl : (Lib.byteCells pre).length = pre.length := Lib.byteCells_length _
    rw [hbl] at htr ⊢
    have HTR := Lib.hid htr
    have HBR := Lib.hid hb
    have HPRE := Lib.hid hpre
    have HGD := Lib.hid hgd
    clear htr hb hpre hbl hgd
    by_cases hjl : j < len
    · obtain ⟨⟨xa, xl, xc, xns, xt⟩, hxj⟩ : ∃ x, S[j]? = some x := ⟨_, List.getElem?_eq_getElem (by omega)⟩
      obtain ⟨b, o, rfl, hat⟩ := (HS.out.keep HBR.out) (by omega)
      obtain ⟨c0, c1, hI⟩ := hat j _ hxj
      have i0 : (j : Int) < (len : Int) := by omega
      have i1 : (0 : Int) ≤ (j : Int) := by omega
      have c0' : wr.cell? ⟨b, o + j * 2, none⟩ = some (.slice xa xl xc) := by rw [Nat.mul_comm j 2]; exact c0
      have c1' : wr.cell? ⟨b, o + j * 2 + 1, none⟩ = some (.int .i64 xt) := by rw [Nat.mul_comm j 2]; exact c1
      have hIw : Ints wr xa xl xns := hI
      have hx20 : xl ≤ 20 := H20.out j _ hxj
      have HXJ := Lib.hid hxj
      have hI1 := hIw.keep ((Below.refl wr.heap.size wr).alloc (Nat.le_refl _) (.cells #[.slice xa xl xc, .int .i64 xt] 45))
      have hb1 := HBR.out.alloc hszr (.cells #[.slice xa xl xc, .int .i64 xt] 45)
      have hbx := heap_alloc_new wr (.cells #[.slice xa xl xc, .int .i64 xt] 45)
      have hs1 := size_alloc1 wr (.cells #[.slice xa xl xc, .int .i64 xt] 45)
      have htr1 := HTR.out.keep (w' := wr.alloc (.cells #[.slice xa xl xc, .int .i64 xt] 45)) (fun k hk => Lib.alloc_old _ _ k hk)
      generalize hW1 : wr.alloc (.cells #[.slice xa xl xc, .int .i64 xt] 45) = Wa at *
      have HB1 := Lib.hid hb1
      have HTR1 := Lib.hid htr1
      have HI := Lib.hid hI1
      have hq0 : Wa.cell? ⟨wr.heap.size, 0, none⟩ = some (.slice xa xl xc) := by rw [Lib.cell_of_heap hbx]; rfl
      have hq1 : Wa.cell? ⟨wr.heap.size, 1, none⟩ = some (.int .i64 xt) := by rw [Lib.cell_of_heap hbx]; rfl
      have hbad : mayOf ⟨xa, xl, xc, xns, xt⟩ = false → P = ([], 22) := by
        intro hm
        rw [← HP.out]
        unfold printOf
        rw [if_neg]
        rw [Bool.not_eq_true, List.all_eq_false]
        exact ⟨_, List.mem_of_getElem? HXJ.out, by rw [hm]; simp⟩
      have HBAD := Lib.hid hbad
      clear hat c0 c1 hI hIw hI1 hb1 hbx htr1 hxj hbad
      cases hxt : isNum xt with
      | false =>
        have hPv := HBAD.out (by unfold mayOf; simp only []; rw [hxt]; simp)
        have hm := rmay_any xt Wa
        rw [hxt] at hm
        have HPV := Lib.hid hPv
        clear hPv hxt
        go_wp2_with (go_at_call 21; refine hm.mono ?_; rintro e w' ⟨rfl, rfl⟩)
        go_ret2
        exact ⟨by rw [HPV.out]; rfl, HB1.out⟩
      | true =>
        have hm := rmay_any xt Wa
        rw [hxt] at hm
        by_cases h16 : xl ≤ 16
        · have d16 : decide ((16 : Int) < (xl : Int)) = false := decide_eq_false (by omega)
          have htb : -1000000000000 ≤ xt ∧ xt ≤ 1000000000000 := by unfold isNum at hxt; simp at hxt; omega
          have hdec := dec_any xt htb.1 htb.2 Wa
          have hit := itoa_len hxt
          obtain ⟨it, hitd⟩ : ∃ it : ByteArray, (⟨(Lib.itoa xt).toArray⟩ : ByteArray) = it := ⟨_, rfl⟩
          have hits : it.size ≤ 11 := by rw [← hitd, mk_size]; exact hit
          rw [hitd] at hdec
          have HITD := Lib.hid hitd
          have HIT := Lib.hid hit
          have HXT := Lib.hid hxt
          clear htb hit hitd hxt
          go_wp2_with (first | (go_at_call 21; refine hm.mono ?_; rintro e Wa ⟨rfl, rfl⟩) | (go_at_call 22; refine hdec.mono ?_; rintro e Wa ⟨rfl, rfl⟩))
          clear hm hdec hW1
          go_loopw [9, 10] (fun tv i wi => ∃ (m : Nat) (u : ByteArray), m ≤ xl ∧ i = .int .i64 (m : Nat) ∧ tv = .string u ∧ u.data.toList = [115, 99, 97, 110, 32] ++ Lib.itoa xt ++ (xns.take m).flatMap numB ∧ u.size ≤ 16 + 12 * m ∧ (∀ n ∈ xns.take m, isNum n = true) ∧ wi = Wa) (fun _ i _ => xl - (intOf i).toNat)
          case atStart => exact ⟨0, _, Nat.zero_le _, rfl, rfl, by rw [← HITD.out]; simp, by rw [ByteArray.size_append]; show 5 + it.size ≤ _; omega, by simp, rfl⟩
          case round =>
            obtain ⟨m, u, hm, rfl, rfl, hu, hus, hnn, hwr⟩ := hrel
            subst hwr
            have HU := Lib.hid hu
            have HNN := Lib.hid hnn
            have hnl := HI.out.1
            clear hu hnn
            by_cases hml : m < xl
            · obtain ⟨n, hnm⟩ : ∃ n, xns[m]? = some n := ⟨_, List.getElem?_eq_getElem (by omega)⟩
              obtain ⟨ib, io, rfl, hcc⟩ := HI.out.2 (by omega)
              have hcm := hcc m n hnm
              have m0 : (m : Int) < (xl : Int) := by omega
              have m1 : (0 : Int) ≤ (m : Int) := by omega
              have HNM := Lib.hid hnm
              clear hcc hnm
              cases hn : isNum n with
              | false =>
                have hPv := HBAD.out (by
                  unfold mayOf
                  simp only []
                  have : xns.all isNum = false := by rw [List.all_eq_false]; exact ⟨n, List.mem_of_getElem? HNM.out, by rw [hn]; simp⟩
                  rw [this]
                  simp)
                have hmy := rmay_any n wr
                rw [hn] at hmy
                have HPV := Lib.hid hPv
                clear hPv hn
                go_wp2_with (go_at_call 21; refine hmy.mono ?_; rintro e w' ⟨rfl, rfl⟩)
                go_ret2
                exact ⟨by rw [HPV.out]; rfl, HB1.out⟩
              | true =>
                have hmy := rmay_any n wr
                rw [hn] at hmy
                have hnb : -1000000000000 ≤ n ∧ n ≤ 1000000000000 := by unfold isNum at hn; simp at hn; omega
                have hdec := dec_any n hnb.1 hnb.2 wr
                have hit2 := itoa_len hn
                obtain ⟨it2, hitd2⟩ : ∃ it2 : ByteArray, (⟨(Lib.itoa n).toArray⟩ : ByteArray) = it2 := ⟨_, rfl⟩
                have hits2 : it2.size ≤ 11 := by rw [← hitd2, mk_size]; exact hit2
                rw [hitd2] at hdec
                have HITD2 := Lib.hid hitd2
                have HN := Lib.hid hn
                clear hnb hit2 hitd2 hn
                go_wp2_with (first | (go_at_call 21; refine hmy.mono ?_; rintro e Wa ⟨rfl, rfl⟩) | (go_at_call 22; refine hdec.mono ?_; rintro e Wa ⟨rfl, rfl⟩))
                refine ⟨⟨m + 1, u ++ ⟨#[32]⟩ ++ it2, by omega, by go_num, rfl, ?_, ?_, ?_, trivial⟩, by simp [intOf]; omega⟩
                · rw [take_flat numB xns m n HNM.out, ← List.append_assoc, ← HU.out, ← HITD2.out]
                  unfold numB
                  simp
                · rw [ByteArray.size_append, ByteArray.size_append]
                  show u.size + 1 + it2.size ≤ _
                  omega
                · intro y hy
                  obtain ⟨hk, rfl⟩ := List.getElem?_eq_some_iff.1 HNM.out
                  rw [List.take_succ_eq_append_getElem hk, List.mem_append, List.mem_singleton] at hy
                  rcases hy with hy | rfl
                  · exact HNN.out y hy
                  · exact HN.out
            · have hmx : m = xl := by omega
              have htk : xns.take m = xns := List.take_of_length_le (by omega)
              have hu2 := HU.out
              have hnn2 := HNN.out
              rw [htk] at hu2 hnn2
              have hmay : mayOf ⟨xa, xl, xc, xns, xt⟩ = true := by
                unfold mayOf
                simp only [Bool.and_eq_true, decide_eq_true_eq, List.all_eq_true]
                exact ⟨⟨h16, HXT.out⟩, hnn2⟩
              have hgd2 : ∀ (i : Nat) (x : ScA), i < j + 1 → S[i]? = some x → mayOf x = true := by
                intro i y hi hy
                rcases Nat.lt_or_ge i j with h' | h'
                · exact HGD.out i y h' hy
                · obtain rfl : i = j := by omega
                  obtain rfl := Option.some.inj (HXJ.out.symm.trans hy)
                  exact hmay
              have HGD2 := Lib.hid hgd2
              have HU2 := Lib.hid hu2
              have hA1 := HB1.out.size
              clear hgd2 hmay hnn2 hu2 htk
              go_wp2_with (at_builtin; refine wpList_mark_str rfl (.tmp 63) (.tmp 65) rfl rfl HTR1.out (u ++ ⟨#[10]⟩) rfl hA1 ?_ ?_)
              · rw [Lib.byteCells_length, ByteArray.size_append]
                show pre.length + (u.size + 1) ≤ _
                omega
              intro v8 W8 htr8 hgrow8
              have hcat : Lib.byteCells pre ++ Lib.strCells (u ++ ⟨#[10]⟩) = Lib.byteCells (headB src ++ (S.take (j + 1)).flatMap scanB) := by
                rw [take_flat scanB S j _ HXJ.out, ← List.append_assoc, HPRE.out, Lib.byteCells_append pre]
                congr 1
                unfold scanB
                simp only []
                rw [← HU2.out]
                unfold Lib.strCells Lib.byteCells
                simp
              rw [hcat] at htr8
              have hL : (headB src ++ (S.take (j + 1)).flatMap scanB).length = pre.length + (u.size + 1) := by
                have := congrArg List.length hcat
                rw [Lib.byteCells_length, List.length_append, Lib.byteCells_length, Lib.strCells_length, ByteArray.size_append] at this
                exact this.symm
              have HTR8 := Lib.hid htr8
              have HB8 := Lib.hid (HB1.out.grown hgrow8 hA1 (fun k hk => HTR1.out.base k hk))
              have HL := Lib.hid hL
              clear htr8 hgrow8 hcat hL
              go_wp2_with fail
              exact ⟨⟨j + 1, by omega, by go_num, HTR8.out, by have := HL.out; omega, HGD2.out, HB8.out⟩, by simp [intOf]; omega⟩


        · have d16 : decide ((16 : Int) < (xl : Int)) = true := decide_eq_true (by omega)
          have hPv := HBAD.out (by unfold mayOf; simp [h16])
          have HPV := Lib.hid hPv
          clear hPv hxt
          go_wp2_with (go_at_call 21; refine hm.mono ?_; rintro e w' ⟨rfl, rfl⟩)
          go_ret2
          exact ⟨by rw [HPV.out]; rfl, HB1.out⟩
    · have hje : j = len := by omega
      have htake : S.take j = S := List.take_of_length_le (by omega)
      have hptx : pre = textB src S := by rw [← HPRE.out, htake]; rfl
      have hall : S.all mayOf = true := by
        rw [List.all_eq_true]
        intro y hy
        obtain ⟨i, hi, rfl⟩ := List.getElem_of_mem hy
        exact HGD.out i _ (by omega) (List.getElem?_eq_getElem hi)
      have hPv : P = if 65536 < pre.length then ([], 24) else (pre, 0) := by
        rw [← HP.out]
        unfold printOf
        rw [if_pos hall, hptx]
      have i3 : decide ((j : Int) < (len : Int)) = false := decide_eq_false (by omega)
      clear hptx htake hall
      by_cases hfull : 65536 < pre.length
      · have e1 : decide ((65536 : Int) < (pre.length : Int)) = true := decide_eq_true (by omega)
        rw [if_pos hfull] at hPv
        have HPV2 := Lib.hid hPv
        clear hPv
        go_wp2_with fail
        go_ret2
        exact ⟨by rw [HPV2.out]; rfl, HBR.out⟩
      · have e1 : decide ((65536 : Int) < (pre.length : Int)) = false := decide_eq_false (by omega)
        rw [if_neg hfull] at hPv
        have HPV2 := Lib.hid hPv
        clear hPv
        obtain ⟨g', tcap', hv', _, _, hcells⟩ := trow_cells HTR.out
        simp only [Value.slice.injEq, Option.some.injEq, Addr.mk.injEq, and_true, true_and, Lib.byteCells_length] at hv'
        obtain ⟨rfl, rfl⟩ := hv'
        have kc2 := run_convert_bytes_back (P := Tryz.prog) wr 49 9 5 ⟨g, 0, none⟩ tcap pre Tryz.underlying49 Tryz.underlying5 Tryz.underlying9 (fun j hj => hcells j _ (by simp [Lib.byteCells, List.getElem?_map, List.getElem?_eq_getElem hj]))
        clear hcells
        go_wp2_with fail
        go_ret2
        exact ⟨by rw [HPV2.out]; rfl, HBR.out⟩
end Go.Proofs.YtjbagjmjbfiddaaGreatDoor
