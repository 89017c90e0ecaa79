/-
  Print: the walk, of many scans.
-/
import Derived.Test.YtjbagjmjbfiddaaGreatDoorPrints
namespace Go.Proofs.YtjbagjmjbfiddaaGreatDoor
open Go.ChangeShapes Go.WideShapes Go.ChangeAt Go.RowKit

set_option maxHeartbeats 4000000 in
set_option maxRecDepth 100000 in
theorem print_many (src : ByteArray) (hs : src.size ≤ 40000) (A : Option Addr) (len cap : Nat) (S : List ScA) (hS : S.length = len) (h40 : len ≤ 20001) (h20 : ∀ (j : Nat) (x : ScA), S[j]? = some x → x.l ≤ 20) (W : World) (hE : Env W) (h : Scans W A S) :
    Calls Tryz.prog 9 #[.string src, .slice A len cap] W fun e w' => Printed w' (printOf src S) e ∧ Below W.heap.size W w' := by
  have HS := Lib.hid h
  have HE := Lib.hid hE
  have H20 := Lib.hid h20
  have h9 := hE.size
  have d0 : decide ((65536 : Int) < (src.size : Int)) = false := decide_eq_false (by omega)
  clear h hE h20
  generalize hP : printOf src S = P
  have HP := Lib.hid hP
  clear hP
  go_enter Tryz.func9, Tryz.ntmps9
  go_wp2_with fail
  go_loopw [15] (fun i wr => ∃ k : Nat, k ≤ len ∧ i = .int .i64 (k : Nat) ∧ (∀ (j : Nat) (x : ScA), j < k → S[j]? = some x → mayOf x = true) ∧ Below W.heap.size W wr) (fun i _ => len - (intOf i).toNat)
  case atStart => exact ⟨0, Nat.zero_le _, rfl, fun j x hj => absurd hj (Nat.not_lt_zero j), Below.refl _ _⟩
  case round =>
    obtain ⟨k, hk, rfl, hgd, hb⟩ := hrel
    have HG := Lib.hid hgd
    have HB := Lib.hid hb
    clear hgd hb
    by_cases hlt : k < len
    · obtain ⟨x, hx⟩ : ∃ x, S[k]? = some x := ⟨_, List.getElem?_eq_getElem (by omega)⟩
      obtain ⟨b, o, rfl, hat⟩ := (HS.out.keep HB.out) (by omega)
      obtain ⟨c0, c1, hI⟩ := hat k x hx
      have i0 : (k : Int) < (len : Int) := by omega
      have i1 : (0 : Int) ≤ (k : Int) := by omega
      have c0' : wr.cell? ⟨b, o + k * 2, none⟩ = some (.slice x.a x.l x.c) := by rw [Nat.mul_comm k 2]; exact c0
      have c1' : wr.cell? ⟨b, o + k * 2 + 1, none⟩ = some (.int .i64 x.t) := by rw [Nat.mul_comm k 2]; exact c1
      have hx20 := H20.out k x hx
      have HI := Lib.hid hI
      have hsz := HB.out.size
      clear hat c0 c1 hI
      go_wp2_with fail
      have hI1 := HI.out.keep ((Below.refl wr.heap.size wr).alloc (Nat.le_refl _) (.cells #[.slice x.a x.l x.c, .int .i64 x.t] 45))
      have hb1 := HB.out.alloc hsz (.cells #[.slice x.a x.l x.c, .int .i64 x.t] 45)
      generalize wr.alloc (.cells #[.slice x.a x.l x.c, .int .i64 x.t] 45) = W1 at *
      have hmb := mayBe_any x W1 hI1 hx20
      have HB1 := Lib.hid hb1
      have hsz1 := hb1.size
      clear hI1 hb1
      cases hmx : mayOf x with
      | false =>
        rw [hmx] at hmb
        have hPv : P = ([], 22) := by
          rw [← HP.out]
          unfold printOf
          rw [if_neg]
          rw [Bool.not_eq_true, List.all_eq_false]
          exact ⟨x, List.mem_of_getElem? hx, by rw [hmx]; simp⟩
        have HPV := Lib.hid hPv
        clear hPv
        refine hmb.mono ?_
        rintro e W2 ⟨rfl, hb2⟩
        have HB2 := Lib.hid (HB1.out.trans (hb2.mono hsz1))
        have hsz2 := HB2.out.size
        clear hb2 hmb
        go_wp2_with (go_at_call 18; refine (new_any 22 0 _).mono ?_)
        rintro e W3 ⟨rfl, hW3⟩
        have hx3 : W3.heap[W2.heap.size]? = some (.cells #[.int .i64 22, .int .i64 0, .nilIface] 72 (0, 0)) := by rw [hW3]; exact heap_alloc_new _ _
        have hb3 : Below W.heap.size W W3 := by rw [hW3]; exact HB2.out.alloc hsz2 _
        have HX3 := Lib.hid hx3
        have HB3 := Lib.hid hb3
        clear hx3 hb3 hW3
        go_wp2_with fail
        go_ret2
        refine ⟨.inr ⟨by rw [HPV.out]; decide, W2.heap.size, by rw [HPV.out]; rfl, by rw [HPV.out]; exact HX3.out⟩, HB3.out⟩
      | true =>
        rw [hmx] at hmb
        refine hmb.mono ?_
        rintro e W2 ⟨rfl, hb2⟩
        have HB2 := Lib.hid (HB1.out.trans (hb2.mono hsz1))
        clear hb2 hmb
        go_wp2_with fail
        refine ⟨⟨k + 1, by omega, by go_num, fun j y hj hy => ?_, HB2.out⟩, by simp [intOf]; omega⟩
        rcases Nat.lt_or_ge j k with h' | h'
        · exact HG.out j y h' hy
        · obtain rfl : j = k := by omega
          obtain rfl := Option.some.inj (hx.symm.trans hy)
          exact hmx
    · obtain rfl : k = len := by omega
      have hall : S.all mayOf = true := by
        rw [List.all_eq_true]
        intro y hy
        obtain ⟨j, hj, rfl⟩ := List.getElem_of_mem hy
        exact HG.out j _ (by omega) (List.getElem?_eq_getElem hj)
      have hPv : P = if 65536 < (textB src S).length then ([], 24) else (textB src S, 0) := by
        rw [← HP.out]
        unfold printOf
        rw [if_pos hall]
      have hgm : ∀ (j : Nat) (x : ScA), S[j]? = some x → mayOf x = true := fun j x hx => HG.out j x (by have := (List.getElem?_eq_some_iff.1 hx).1; omega) hx
      have HPV := Lib.hid hPv
      have HGM := Lib.hid hgm
      have hsz := HB.out.size
      clear hall hPv hgm
      have hxs : (hexOf src).size ≤ 80001 := by
        unfold hexOf
        split
        · decide
        · rw [mk_size, hexes_len]; omega
      have hhx := phex_any src (by omega) W.heap.size wr hsz
      obtain ⟨hx, hhd⟩ : ∃ hx, hexOf src = hx := ⟨_, rfl⟩
      rw [hhd] at hhx hxs
      have hhead : headB src = ((⟨#[115, 114, 99, 32]⟩ ++ hx ++ ⟨#[10]⟩ : ByteArray)).data.toList := by unfold headB; rw [hhd]; simp
      have HHEAD := Lib.hid hhead
      clear hhead hhd
      go_wp2_with (go_at_call 16; refine hhx.mono ?_)
      rintro e W1 ⟨rfl, hb1⟩
      have HB1 := Lib.hid (HB.out.trans hb1)
      have hsz1 := HB1.out.size
      clear hb1 hhx
      have hss : (⟨#[115, 114, 99, 32]⟩ ++ hx ++ ⟨#[10]⟩ : ByteArray).size = hx.size + 5 := by rw [ByteArray.size_append, ByteArray.size_append]; show 4 + hx.size + 1 = _; omega
      have HSS := Lib.hid hss
      clear hss
      have kc := fun s => Lib.run_convert_string_bytes (P := Tryz.prog) W1 9 49 5 s Tryz.underlying9 Tryz.underlying49 Tryz.underlying5
      go_wp2_with fail
      have htr := trow_bytes (w := W1) (s := (⟨#[115, 114, 99, 32]⟩ ++ hx ++ ⟨#[10]⟩ : ByteArray)) (A := W.heap.size) hsz1 (by rw [HSS.out]; omega)
      rw [show (⟨#[115, 114, 99, 32]⟩ ++ hx ++ ⟨#[10]⟩ : ByteArray).size = 4 + hx.size + 1 by rw [HSS.out]; omega] at htr
      have hcells : Lib.strCells (⟨#[115, 114, 99, 32]⟩ ++ hx ++ ⟨#[10]⟩ : ByteArray) = Lib.byteCells (headB src) := by rw [HHEAD.out]; rfl
      rw [hcells] at htr
      have hhl : (headB src).length ≤ 80006 := by
        rw [HHEAD.out]
        show (⟨#[115, 114, 99, 32]⟩ ++ hx ++ ⟨#[10]⟩ : ByteArray).size ≤ _
        rw [HSS.out]; omega
      have hbb := below_bytes HB1.out hsz1 (⟨#[115, 114, 99, 32]⟩ ++ hx ++ ⟨#[10]⟩ : ByteArray)
      generalize Lib.bytesWorld W1 5 (⟨#[115, 114, 99, 32]⟩ ++ hx ++ ⟨#[10]⟩ : ByteArray) = W2 at *
      generalize (⟨#[115, 114, 99, 32]⟩ ++ hx ++ ⟨#[10]⟩ : ByteArray) = hsrc at *
      generalize Value.slice (some ⟨W1.heap.size, 0, none⟩) (4 + hx.size + 1) (grownCap W1 (4 + hx.size + 1) 0 5) = v0 at *
      clear kc hcells
      obtain ⟨len, hlen⟩ : ∃ len, k = len := ⟨_, rfl⟩
      rw [hlen] at hS h40 ⊢
      go_loopw [8, 35] (fun v i wr => ∃ j : Nat, j ≤ len ∧ i = .int .i64 (j : Nat) ∧ TRow wr W.heap.size v (Lib.byteCells (headB src ++ (S.take j).flatMap scanB)) ∧ (headB src ++ (S.take j).flatMap scanB).length ≤ 90000 ∧ Below W.heap.size W wr) (fun _ i _ => len - (intOf i).toNat)
      case atStart => exact ⟨0, Nat.zero_le _, rfl, by simpa using htr, by simp; omega, hbb⟩
      case round =>
        clear htr hbb
        obtain ⟨j, hj, rfl, htr, hbd, hb⟩ := hrel
        have hszr := hb.size
        obtain ⟨g, tcap, rfl, hAg, hgl, -⟩ := trow_cells htr
        obtain ⟨pre, hpre⟩ : ∃ pre, headB src ++ (S.take j).flatMap scanB = pre := ⟨_, rfl⟩
        rw [hpre] at htr hbd ⊢
        have hbl : (Lib.byteCells pre).length = pre.length := Lib.byteCells_length _
        rw [hbl] at htr ⊢
        have HTR := Lib.hid htr
        have HBR := Lib.hid hb
        have HPRE := Lib.hid hpre
        clear htr hb hpre hbl
        by_cases hjl : j < len
        · obtain ⟨⟨xa, xl, xc, xns, xt⟩, hxj⟩ : ∃ x, S[j]? = some x := ⟨_, List.getElem?_eq_getElem (by omega)⟩
          obtain ⟨b, o, rfl, hat⟩ := (HS.out.keep HBR.out) (by omega)
          obtain ⟨c0, c1, -⟩ := hat j _ hxj
          have hmay := HGM.out j _ hxj
          have i0 : (j : Int) < (len : Int) := by omega
          have i1 : (0 : Int) ≤ (j : Int) := by omega
          have c0' : wr.cell? ⟨b, o + j * 2, none⟩ = some (.slice xa xl xc) := by rw [Nat.mul_comm j 2]; exact c0
          have c1' : wr.cell? ⟨b, o + j * 2 + 1, none⟩ = some (.int .i64 xt) := by rw [Nat.mul_comm j 2]; exact c1
          have hmx : xl ≤ 16 ∧ isNum xt = true ∧ ∀ n ∈ xns, isNum n = true := by
            unfold mayOf at hmay
            simp only [Bool.and_eq_true, decide_eq_true_eq, List.all_eq_true] at hmay
            exact ⟨hmay.1.1, hmay.1.2, hmay.2⟩
          obtain ⟨hx16, hxt, hxn⟩ := hmx
          have hit := itoa_len hxt
          have htb : -9223372036854775808 ≤ xt ∧ xt ≤ 9223372036854775807 := by unfold isNum at hxt; simp at hxt; omega
          have HITL := Lib.hid hit
          have HXN := Lib.hid hxn
          have HXJ := Lib.hid hxj
          have hb1 := HBR.out.alloc hszr (.cells #[.slice xa xl xc, .int .i64 xt] 45)
          have hbx := heap_alloc_new wr (.cells #[.slice xa xl xc, .int .i64 xt] 45)
          have hk1 : ∀ k, k < wr.heap.size → (wr.alloc (.cells #[.slice xa xl xc, .int .i64 xt] 45)).heap[k]? = wr.heap[k]? := fun k hk => Lib.alloc_old _ _ k hk
          have hs1 := size_alloc1 wr (.cells #[.slice xa xl xc, .int .i64 xt] 45)
          have htr1 := HTR.out.keep hk1
          generalize hW1 : wr.alloc (.cells #[.slice xa xl xc, .int .i64 xt] 45) = Wa at *
          have hio := itoa_any xt htb.1 htb.2 Wa (HE.out.keep hb1 h9)
          obtain ⟨it, hitd⟩ : ∃ it : ByteArray, (⟨(Lib.itoa xt).toArray⟩ : ByteArray) = it := ⟨_, rfl⟩
          have hits : it.size ≤ 11 := by rw [← hitd, mk_size]; exact hit
          rw [hitd] at hio
          have HITD := Lib.hid hitd
          have HB1 := Lib.hid hb1
          have HBX := Lib.hid hbx
          have HTR1 := Lib.hid htr1
          have hbx0 : Wa.cell? ⟨wr.heap.size, 0, none⟩ = some (.slice xa xl xc) := by rw [Lib.cell_of_heap hbx]; rfl
          have hbx1 : Wa.cell? ⟨wr.heap.size, 1, none⟩ = some (.int .i64 xt) := by rw [Lib.cell_of_heap hbx]; rfl
          clear hat c0 c1 hmay hxt hxn hit htb hk1 hb1 hbx htr1 hitd hxj
          go_wp2_with (go_at_call 19; refine hio.mono ?_)
          first | rintro e W2 rfl hb2 | rintro e W2 ⟨rfl, hb2⟩
          have hsa : W.heap.size ≤ Wa.heap.size := by rw [hs1]; omega
          have HB2 := Lib.hid (HB1.out.trans (hb2.mono hsa))
          have htr2 := HTR1.out.keep (w' := W2) (fun k hk => hb2.block k hk)
          have hs2 := hb2.size
          have hbx2 : W2.heap[wr.heap.size]? = some (.cells #[.slice xa xl xc, .int .i64 xt] 45 (0, 0)) := (hb2.block _ (by rw [hs1]; omega)).trans HBX.out
          have HBX2 := Lib.hid hbx2
          have hA2 := HB2.out.size
          clear hb2 hbx2 hbx0 hbx1 hio hW1
          go_wp2_with (at_builtin; refine wpList_mark_str rfl (.tmp 39) (.tmp 43) rfl rfl htr2 (⟨#[115, 99, 97, 110, 32]⟩ ++ it) rfl hA2 ?_ ?_)
          · rw [Lib.byteCells_length, ByteArray.size_append]
            show pre.length + (5 + it.size) ≤ _
            omega
          intro v' W3 htr3 hgrow
          have hcat : Lib.byteCells pre ++ Lib.strCells (⟨#[115, 99, 97, 110, 32]⟩ ++ it) = Lib.byteCells (pre ++ ([115, 99, 97, 110, 32] ++ Lib.itoa xt)) := by
            rw [Lib.byteCells_append]
            congr 1
            rw [← HITD.out]
            unfold Lib.strCells Lib.byteCells
            simp
          rw [hcat] at htr3
          have hgq : some g ≠ some wr.heap.size := by simp; omega
          have hbx3 : W3.heap[wr.heap.size]? = some (.cells #[.slice xa xl xc, .int .i64 xt] 45 (0, 0)) := (hgrow.block _ (by omega) (fun e => hgq (by rw [e]; rfl))).trans HBX2.out
          have HB3 := Lib.hid (HB2.out.grown hgrow hA2 (fun k hk => htr2.base k hk))
          have HTR3 := Lib.hid htr3
          have hq0 : W3.cell? ⟨wr.heap.size, 0, none⟩ = some (.slice xa xl xc) := by rw [Lib.cell_of_heap hbx3]; rfl
          clear htr3 hgrow hcat hbx3 htr2
          obtain ⟨pr2, hpr2⟩ : ∃ pr2, pre ++ ([115, 99, 97, 110, 32] ++ Lib.itoa xt) = pr2 := ⟨_, rfl⟩
          have hp2l : pr2.length ≤ pre.length + 16 := by rw [← hpr2]; have := HITL.out; simp; omega
          have HPR2 := Lib.hid hpr2
          rw [hpr2] at HTR3
          clear hpr2
          go_wp2_with fail
          go_loopw [8, 48] (fun v i wi => ∃ m : Nat, m ≤ xl ∧ i = .int .i64 (m : Nat) ∧ TRow wi W.heap.size v (Lib.byteCells (pr2 ++ (xns.take m).flatMap numB)) ∧ Below W.heap.size W wi) (fun _ i _ => xl - (intOf i).toNat)
          case atStart => exact ⟨0, Nat.zero_le _, rfl, by simpa using HTR3.out, HB3.out⟩
          case round =>
            obtain ⟨m, hm, rfl, htri, hbi⟩ := hrel
            have hszi := hbi.size
            have HBI := Lib.hid hbi
            obtain ⟨b', o', hbo, hat⟩ := (HS.out.keep hbi) (by omega)
            have hI : Ints wr xa xl xns := (hat j _ HXJ.out).2.2
            have hnl := hI.1
            clear hat hbi
            by_cases hml : m < xl
            · obtain ⟨n, hnm⟩ : ∃ n, xns[m]? = some n := ⟨_, List.getElem?_eq_getElem (by omega)⟩
              obtain ⟨ib, io, rfl, hcc⟩ := hI.2 (by omega)
              have hcm := hcc m n hnm
              have hnn := HXN.out n (List.mem_of_getElem? hnm)
              have hnlen := itoa_len hnn
              have hnb : -9223372036854775808 ≤ n ∧ n ≤ 9223372036854775807 := by unfold isNum at hnn; simp at hnn; omega
              have m0 : (m : Int) < (xl : Int) := by omega
              have m1 : (0 : Int) ≤ (m : Int) := by omega
              have hio := itoa_any n hnb.1 hnb.2 wr (HE.out.keep HBI.out h9)
              obtain ⟨it2, hitd2⟩ : ∃ it2 : ByteArray, (⟨(Lib.itoa n).toArray⟩ : ByteArray) = it2 := ⟨_, rfl⟩
              have hits2 : it2.size ≤ 11 := by rw [← hitd2, mk_size]; exact hnlen
              rw [hitd2] at hio
              have HITD2 := Lib.hid hitd2
              have HTRI := Lib.hid htri
              have HNM := Lib.hid hnm
              have hflat := nums_len (ns := xns.take m) (fun y hy => HXN.out y (List.mem_of_mem_take hy))
              have hflat2 : ((xns.take m).flatMap numB).length ≤ 240 := by rw [List.length_take] at hflat; omega
              clear hI hcc hnn hnlen hnb hitd2 htri hnm hflat hbo
              go_wp2_with (go_at_call 19; refine hio.mono ?_)
              first | rintro e W5 rfl hb5 | rintro e W5 ⟨rfl, hb5⟩
              have HB5 := Lib.hid (HBI.out.trans (hb5.mono hszi))
              have htr5 := HTRI.out.keep (w' := W5) (fun k hk => hb5.block k hk)
              have hA5 := HB5.out.size
              clear hb5 hio
              go_wp2_with (at_builtin; refine wpList_mark_str rfl (.tmp 52) (.tmp 55) rfl rfl htr5 (⟨#[32]⟩ ++ it2) rfl hA5 ?_ ?_)
              · rw [Lib.byteCells_length, ByteArray.size_append, List.length_append]
                show _ + (1 + it2.size) ≤ _
                omega
              intro v6 W6 htr6 hgrow6
              have hcat : Lib.byteCells (pr2 ++ (xns.take m).flatMap numB) ++ Lib.strCells (⟨#[32]⟩ ++ it2) = Lib.byteCells (pr2 ++ (xns.take (m + 1)).flatMap numB) := by
                rw [take_flat numB xns m n HNM.out, ← List.append_assoc, Lib.byteCells_append _ (numB n)]
                congr 1
                rw [← HITD2.out]
                unfold Lib.strCells Lib.byteCells numB
                simp
              rw [hcat] at htr6
              have HTR6 := Lib.hid htr6
              have HB6 := Lib.hid (HB5.out.grown hgrow6 hA5 (fun k hk => htr5.base k hk))
              clear htr6 hgrow6 hcat htr5
              go_wp2_with fail
              exact ⟨⟨m + 1, by omega, by go_num, HTR6.out, HB6.out⟩, by simp [intOf]; omega⟩
            · obtain hmx : m = xl := by omega
              have htk : xns.take m = xns := List.take_of_length_le (by omega)
              rw [htk] at htri
              have HTRI := Lib.hid htri
              clear htri hI htk hbo
              have hflat := nums_len HXN.out
              have hflat2 : (xns.flatMap numB).length ≤ 240 := by omega
              have hb7 := HBI.out.alloc hszi (.cells #[.int .u8 10] 5)
              have HB7 := Lib.hid hb7
              clear hb7
              go_wp2_with (at_builtin; refine wpList_mark_one rfl (.tmp 58) (.tmp 59) rfl rfl (HTRI.out.keep (fun k hk => Lib.alloc_old _ _ k hk)) ⟨wr.heap.size, 0, none⟩ 10 rfl cell_last ?_ ?_ ?_)
              · simp; omega
              · rw [Lib.byteCells_length, List.length_append]; omega
              intro v8 W8 htr8 hgrow8
              have htr7 := HTRI.out.keep (w' := wr.alloc (.cells #[.int .u8 10] 5)) (fun k hk => Lib.alloc_old _ _ k hk)
              have hB8 := HB7.out.grown hgrow8 (by simp; omega) (fun k hk => htr7.base k hk)
              have hcat : Lib.byteCells (pr2 ++ xns.flatMap numB) ++ [.int .u8 10] = Lib.byteCells (headB src ++ (S.take (j + 1)).flatMap scanB) := by
                rw [take_flat scanB S j _ HXJ.out, ← List.append_assoc, HPRE.out, ← HPR2.out]
                unfold scanB
                simp [Lib.byteCells]
              rw [hcat] at htr8
              have hL : (headB src ++ (S.take (j + 1)).flatMap scanB).length = pr2.length + (xns.flatMap numB).length + 1 := by
                have := congrArg List.length hcat
                rw [Lib.byteCells_length, List.length_append, Lib.byteCells_length, List.length_append] at this
                simpa using this.symm
              obtain ⟨g8, tcap8, rfl, hAg8, hgl8, -⟩ := trow_cells htr8
              obtain ⟨tx, htx⟩ : ∃ tx, headB src ++ (S.take (j + 1)).flatMap scanB = tx := ⟨_, rfl⟩
              rw [htx] at htr8 hL ⊢
              have hbl : (Lib.byteCells tx).length = tx.length := Lib.byteCells_length _
              rw [hbl] at htr8 ⊢
              have HTR8 := Lib.hid htr8
              have HB8 := Lib.hid hB8
              have HTX := Lib.hid htx
              have hs8 := HB8.out.size
              clear htr8 hB8 htx hbl hcat htr7 hgrow8 hflat
              by_cases hfull : 65536 < tx.length
              · have e1 : decide ((65536 : Int) < (tx.length : Int)) = true := decide_eq_true (by omega)
                have hPv : P = ([], 24) := by
                  rw [HPV.out, if_pos]
                  have h1 := flat_mono scanB S (j + 1)
                  have h2 : tx.length = (headB src).length + ((S.take (j + 1)).flatMap scanB).length := by rw [← HTX.out, List.length_append]
                  unfold textB
                  rw [List.length_append]
                  omega
                have HPV2 := Lib.hid hPv
                clear hPv
                clear hL hnl hflat2 hmx
                go_wp2_with (go_at_call 18; refine (new_any 24 0 _).mono ?_)

                rintro e W9 ⟨rfl, hW9⟩
                have hx9 : W9.heap[W8.heap.size]? = some (.cells #[.int .i64 24, .int .i64 0, .nilIface] 72 (0, 0)) := by rw [hW9]; exact heap_alloc_new _ _
                have hb9 : Below W.heap.size W W9 := by rw [hW9]; exact HB8.out.alloc hs8 _
                have HX9 := Lib.hid hx9
                have HB9 := Lib.hid hb9
                clear hx9 hb9 hW9
                go_wp2_with fail
                go_ret2
                refine ⟨.inr ⟨by rw [HPV2.out]; decide, W8.heap.size, by rw [HPV2.out]; rfl, by rw [HPV2.out]; exact HX9.out⟩, HB9.out⟩
              · have e1 : decide ((65536 : Int) < (tx.length : Int)) = false := decide_eq_false (by omega)
                clear hL hnl hflat2 hmx
                go_wp2_with fail
                exact ⟨⟨j + 1, by omega, by go_num, by rw [HTX.out]; exact HTR8.out, by rw [HTX.out]; omega, HB8.out⟩, by simp [intOf]; omega⟩
        · have hje : j = len := by omega
          have htake : S.take j = S := List.take_of_length_le (by omega)
          have hptx : pre = textB src S := by rw [← HPRE.out, htake]; rfl
          have i3 : decide ((j : Int) < (len : Int)) = false := decide_eq_false (by omega)
          have HPT := Lib.hid hptx
          clear hptx htake
          by_cases hfull : 65536 < pre.length
          · have e1 : decide ((65536 : Int) < (pre.length : Int)) = true := decide_eq_true (by omega)
            have hPv : P = ([], 24) := by rw [HPV.out, if_pos (by rw [← HPT.out]; exact hfull)]
            have HPV2 := Lib.hid hPv
            clear hPv
            go_wp2_with (go_at_call 18; refine (new_any 24 0 _).mono ?_)
            rintro e W9 ⟨rfl, hW9⟩
            have hx9 : W9.heap[wr.heap.size]? = some (.cells #[.int .i64 24, .int .i64 0, .nilIface] 72 (0, 0)) := by rw [hW9]; exact heap_alloc_new _ _
            have hb9 : Below W.heap.size W W9 := by rw [hW9]; exact HBR.out.alloc hszr _
            have HX9 := Lib.hid hx9
            have HB9 := Lib.hid hb9
            clear hx9 hb9 hW9
            go_wp2_with fail
            go_ret2
            refine ⟨.inr ⟨by rw [HPV2.out]; decide, wr.heap.size, by rw [HPV2.out]; rfl, by rw [HPV2.out]; exact HX9.out⟩, HB9.out⟩
          · have e1 : decide ((65536 : Int) < (pre.length : Int)) = false := decide_eq_false (by omega)
            have hPv : P = (pre, 0) := by rw [HPV.out, if_neg (by rw [← HPT.out]; exact hfull), ← HPT.out]
            have HPV2 := Lib.hid hPv
            clear hPv
            obtain ⟨g', tcap', hv', _, _, hcells⟩ := trow_cells HTR.out
            simp only [Value.slice.injEq, Option.some.injEq, Addr.mk.injEq, and_true, true_and, Lib.byteCells_length] at hv'
            obtain ⟨rfl, rfl⟩ := hv'
            have kc2 := run_convert_bytes_back (P := Tryz.prog) wr 49 9 5 ⟨g, 0, none⟩ tcap pre Tryz.underlying49 Tryz.underlying5 Tryz.underlying9 (fun j hj => hcells j _ (by simp [Lib.byteCells, List.getElem?_map, List.getElem?_eq_getElem hj]))
            clear hcells
            go_wp2_with fail
            go_ret2
            exact ⟨.inl ⟨by rw [HPV2.out], by rw [HPV2.out]; rfl⟩, HBR.out⟩
end Go.Proofs.YtjbagjmjbfiddaaGreatDoor
