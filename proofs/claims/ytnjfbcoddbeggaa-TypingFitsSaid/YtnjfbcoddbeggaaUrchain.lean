/-
  The document's chain.
-/
import Derived.Test.YtnjfbcoddbeggaaUfaces
import Derived.Test.YtnjfbcoddbeggaaUpto
namespace Go.Proofs.Ytnjfbcoddbeggaa
open Go Go.ChangeShapes Go.WideShapes Go.ChangeAt Go.RowKit Go.Joins

theorem baseU_in {ds : List DeclU} {n : Nat} {x : DeclU} (hx : ds[n]? = some x) : baseU ds (n : Int) = x.base := baseU_at hx
/-- the document's next: whatever is found by the base's name -/
def rnextU (ds : List DeclU) (d : Int) : Int := findU ds (baseU ds d)
theorem rnext_has {ds : List DeclU} {d : Int} : hasU ds (rnextU ds d) 2 = hasU ds (nextU ds d) 2 := by
  unfold nextU rnextU
  cases h : hasU ds (findU ds (baseU ds d)) 2 with
  | true => rw [if_pos rfl]; exact h.symm
  | false => rw [if_neg Bool.false_ne_true, has_neg (by omega)]
theorem rnext_next {ds : List DeclU} {d : Int} (h : hasU ds (rnextU ds d) 2 = true) : rnextU ds d = nextU ds d := by
  unfold nextU rnextU at *
  rw [if_pos h]
set_option maxHeartbeats 3200000 in
set_option maxRecDepth 100000 in
theorem rchain_any (W : World) (lim : Nat) (a : Option Addr) (l c : Nat) (ds : List DeclU) (hr : Row shDecl (fun k => k < lim) W a l ds) (hl : lim ≤ W.heap.size) (hf : l ≤ 16) (d : Int) :
    Calls Try.prog 22 #[.agg #[.slice a l c], .int .i64 d] W fun e W' => ∃ v, e = .returned v ∧ W'.ownsRow W.heap.size 3 1 v (chainU ds d).length ((chainU ds d).map iv) ∧ Below W.heap.size W W' := by
  have HB0 := Lib.hid ((Below.refl W.heap.size W).alloc (Nat.le_refl _) (.cells #[.slice a l c] 24))
  have HX0 := Lib.hid (show (W.alloc (.cells #[.slice a l c] 24)).heap[W.heap.size]? = some (.cells #[.slice a l c] 24 (0, 0)) from heap_alloc_new W _)
  have HR := Lib.hid hr
  have HL := Lib.hid hl
  have hdl := hr.1
  have hs0 : (W.alloc (.cells #[.slice a l c] 24)).heap.size = W.heap.size + 1 := by simp
  obtain ⟨C, hC⟩ : ∃ C, chainU ds d = C := ⟨_, rfl⟩
  rw [hC]
  have HC := Lib.hid hC
  clear hr hl hC
  go_enter Try.func22, Try.ntmps22
  go_wp2_with fail
  generalize (W.alloc (.cells #[.slice a l c] 24)) = V0 at *
  go_loopw [1, 5] (fun dv cv wr => ∃ (dd ee : Int) (out : List Int), dv = .int .i64 dd ∧ hasU ds dd 2 = hasU ds ee 2 ∧ (hasU ds dd 2 = true → dd = ee) ∧ Way ds d out ee ∧ wr.ownsRow V0.heap.size 3 1 cv out.length (out.map iv) ∧ wr.heap[W.heap.size]? = some (.cells #[.slice a l c] 24 (0, 0)) ∧ Below W.heap.size W wr) (fun _ cv _ => ds.length + 1 - lenV cv)
  case atStart => exact ⟨d, d, [], rfl, rfl, fun _ => rfl, Way.init ds d, World.ownsRow_nil _ _ _ _, HX0.out, HB0.out⟩
  case round =>
    obtain ⟨dd, ee, out, rfl, hde, hdd, hway, hown, hX, hB⟩ := hrel
    have e0 : wr.cell? ⟨W.heap.size, 0, none⟩ = some (.slice a l c) := by rw [Lib.cell_of_heap hX]; rfl
    have hrw := row_lim HR.out (hB.mono HL.out)
    have hkd := kind_any (fun k => k < lim) wr (fun k hk => by have := hB.size; have := HL.out; omega) a l c ds hrw dd
    have HWAY := Lib.hid hway
    have HOWN := Lib.hid hown
    have HX := Lib.hid hX
    have HB := Lib.hid hB
    have hln := lenV_own hown
    clear hway hX
    have hk2 := kind_has (ds := ds) (d := dd) (k := 2) (by omega)
    generalize kindU ds dd = kd at *
    have HK2 := Lib.hid hk2
    clear hk2
    go_wp2_with (go_at_call 48; refine hkd.mono ?_)
    rintro e W1 ⟨rfl, hb1⟩
    have HX1 := Lib.hid ((hb1.block _ (heap_lt HX.out)).trans HX.out)
    have HB1 := Lib.hid (HB.out.trans (hb1.mono HB.out.size))
    have hO1 := own_keep1 HOWN.out (fun k hk => hb1.block k (own_type HOWN.out hk).2.1)
    have HO1 := Lib.hid hO1
    have hsW := hb1.size
    clear hkd hb1 hO1 e0 hown hB
    cases hd : hasU ds dd 2 with
    | false =>
      obtain rfl : out = C := (HWAY.out.done (by rw [← hde, hd]; rfl)).symm.trans HC.out
      have t1 : (kd == 2) = false := HK2.out.trans hd
      clear hde hdd
      go_wp2_with fail
      go_returns
      exact ⟨u5, by simp, own_mono HO1.out (by omega), HB1.out⟩
    | true =>
      have t1 : (kd == 2) = true := HK2.out.trans hd
      obtain rfl := hdd hd
      obtain ⟨i, x, rfl, hix, -⟩ := has_spec.1 hd
      have hil : i < l := by have := (List.getElem?_eq_some_iff.1 hix).1; omega
      obtain ⟨ca, cl, cc, rfl⟩ : ∃ ca cl cc, u5 = .slice ca cl cc := by
        rcases ownsRow_forms HO1.out with ⟨h, _⟩ | ⟨g, cap, h⟩
        · exact ⟨_, _, _, h⟩
        · exact ⟨_, _, _, h⟩
      have hhs := rhas_any (fun _ => True) W1 ca cl cc out (ints_row HO1.out (fun _ _ => trivial)).1 (i : Int)
      have HIX := Lib.hid hix
      have HD := Lib.hid hd
      clear hde hdd hix hd
      cases hct : out.contains (i : Int) with
      | true =>
        rw [hct] at hhs
        obtain rfl : out = C := (HWAY.out.done (by rw [HD.out, hct]; rfl)).symm.trans HC.out
        clear hct
        go_wp2_with (go_at_call 53; refine hhs.mono ?_)
        rintro e W2 ⟨rfl, rfl⟩
        clear hhs
        go_wp2_with fail
        go_returns
        exact ⟨_, by simp, own_mono HO1.out (by omega), HB1.out⟩
      | false =>
        rw [hct] at hhs
        have HST := Lib.hid (HWAY.out.step HD.out hct)
        have hol := HST.out.len
        rw [List.length_append, List.length_singleton] at hol
        have HOA := Lib.hid (HO1.out.alloc (.cells #[.int .i64 (i : Int)] 3))
        obtain ⟨i3, hi3, hz0, hz1, hz2⟩ := info_parts info3
        have hsV : V0.heap.size ≤ W1.heap.size := by have := heap_lt HX1.out; rw [hs0]; omega
        clear hct
        go_wp2_with (go_at_call 53; refine hhs.mono ?_)
        rintro e W2 ⟨rfl, rfl⟩
        clear hhs
        go_wp2_with (at_builtin; refine wpList_append_own _ rfl (.tmp 16) (.tmp 18) 32 rfl V0.heap.size 3 i3 (.int .i64 0) 1 8 Try.underlying32 hi3 hz0 hz1 hz2 rfl (by decide) (.slice ca cl cc) out.length (out.map iv) rfl HOA.out ⟨W2.heap.size, 0, none⟩ 1 1 [.int .i64 (i : Int)] rfl rfl ?c1 ?c2 ?c3 ?c4 ?c5 ?_)
        case c1 => exact lit_cells W2 #[.int .i64 (i : Int)] 3
        case c2 => intro u hu; simp only [List.mem_singleton] at hu; subst hu; rfl
        case c3 => unfold maxLen; omega
        case c4 => omega
        case c5 => simp; omega
        intro v3 w3 hown3 hgrow3 _
        have hlow : ∀ q, q < V0.heap.size → w3.heap[q]? = W2.heap[q]? := fun q hq => (hgrow3.block q (by first | omega | (simp; omega)) (fun h => by have := (own_type HO1.out h.symm).1; omega)).trans (Below.heap_alloc _ _ _ (by omega))
        have HX3 := Lib.hid ((hlow W.heap.size (by omega)).trans HX1.out)
        have HB3 := Lib.hid (HB1.out.trans (show Below W.heap.size W2 w3 from ⟨hgrow3.os, hgrow3.tape, hgrow3.output, Nat.le_trans (by simp) hgrow3.size, fun k hk => hlow k (by omega)⟩))
        have HO3 := Lib.hid hown3
        clear hown3 hgrow3 hlow HOA
        obtain ⟨bb, o, x', vs, rfl, _, hx, hca, hI⟩ := (row_lim HR.out (HB3.out.mono HL.out)).item hil
        obtain rfl := Option.some.inj (HIX.out.symm.trans hx)
        obtain ⟨a3, l3, c3, a6, l6, c6, a7, l7, c7, d8, a8, l8, c8, rfl, -⟩ := decl_is.1 hI
        have e2 : w3.cell? ⟨bb, o + i * 11 + 2, none⟩ = some (.string x.base) := hca 2 _ rfl
        have e0 : w3.cell? ⟨W.heap.size, 0, none⟩ = some (.slice (some ⟨bb, o, none⟩) l c) := by rw [Lib.cell_of_heap HX3.out]; rfl
        have b2 := World.block_lt_of_cell? _ _ e2
        have b0 := World.block_lt_of_cell? _ _ e0
        have G1 := Lib.hid (fun (w' : World) (h : Below w3.heap.size w3 w') => (h.cell b0).trans e0)
        have G2 := Lib.hid (fun (w' : World) (h : Below w3.heap.size w3 w') => (h.cell b2).trans e2)
        have HS0 := Lib.hid (show Below w3.heap.size w3 w3.drew from ⟨rfl, rfl, rfl, Nat.le_refl _, fun _ _ => rfl⟩)
        have hfd := fun (V : World) (hb : Below w3.heap.size w3 V) => rfind_any (fun k => k < lim) V (fun k hk => by have := HB3.out.size; have := hb.size; have := HL.out; omega) (some ⟨bb, o, none⟩) l c ds (row_lim HR.out ((HB3.out.trans (hb.mono HB3.out.size)).mono HL.out)) x.base
        have HFD := Lib.hid hfd
        have i0 : (i : Int) < (l : Int) := by omega
        have i1 : (0 : Int) ≤ (i : Int) := by omega
        have hrn : rnextU ds (i : Int) = findU ds x.base := by unfold rnextU; rw [baseU_at HIX.out]
        have HRN := Lib.hid hrn
        clear hx hca hI e2 e0 b2 b0 hfd hrn t1
        go_upto_region 4 with fail
        refine AnyK.start 8 (fun w' => Below w3.heap.size w3 w') rfl HS0.out (fun _ => ?_)
        refine AnyK.take (oi := { dst := _, op := _, type := _, pos := _, after := _, guard := _ }) 0 ?_ rfl (by kernel_rfl) (fun _ _ _ h => h) (Or.inl ⟨by rfl, ?_⟩) HS0.out ?_
        rotate_left
        · (intro w' hS; have q1 := G1.out w' hS; have q2 := G2.out w' hS; clear hS; go_simp; with_reducible rfl)
        simp only [Act.put, List.setIfInBounds_toArray, List.set_cons_zero, List.set_cons_succ]
        refine AnyK.take (oi := { dst := _, op := _, type := _, pos := _, after := _, guard := _ }) 1 ?_ rfl (by kernel_rfl) (fun _ _ _ h => h) (Or.inl ⟨by rfl, ?_⟩) HS0.out ?_
        rotate_left
        · (intro w' hS; have q1 := G1.out w' hS; have q2 := G2.out w' hS; clear hS; go_simp; with_reducible rfl)
        simp only [Act.put, List.setIfInBounds_toArray, List.set_cons_zero, List.set_cons_succ]
        refine AnyK.take (oi := { dst := _, op := _, type := _, pos := _, after := _, guard := _ }) 2 ?_ rfl (by kernel_rfl) (fun _ _ _ h => h) (Or.inl ⟨by rfl, ?_⟩) HS0.out ?_
        rotate_left
        · (intro w' hS; have q1 := G1.out w' hS; have q2 := G2.out w' hS; clear hS; go_simp; with_reducible rfl)
        simp only [Act.put, List.setIfInBounds_toArray, List.set_cons_zero, List.set_cons_succ]
        refine AnyK.take (oi := { dst := _, op := _, type := _, pos := _, after := _, guard := _ }) 3 ?_ rfl (by kernel_rfl) (fun _ _ _ h => h) (Or.inl ⟨by rfl, ?_⟩) HS0.out ?_
        rotate_left
        · (intro w' hS; have q1 := G1.out w' hS; have q2 := G2.out w' hS; clear hS; go_simp; with_reducible rfl)
        simp only [Act.put, List.setIfInBounds_toArray, List.set_cons_zero, List.set_cons_succ]
        refine AnyK.take (oi := { dst := _, op := _, type := _, pos := _, after := _, guard := _ }) 4 ?_ rfl (by kernel_rfl) (fun _ _ _ h => h) (Or.inl ⟨by rfl, ?_⟩) HS0.out ?_
        rotate_left
        · (intro w' hS; have q1 := G1.out w' hS; have q2 := G2.out w' hS; clear hS; go_simp; with_reducible rfl)
        simp only [Act.put, List.setIfInBounds_toArray, List.set_cons_zero, List.set_cons_succ]
        refine AnyK.take (oi := { dst := _, op := _, type := _, pos := _, after := _, guard := _ }) 5 ?_ rfl (by kernel_rfl) (fun _ _ _ h => h) (Or.inl ⟨by rfl, ?_⟩) HS0.out ?_
        rotate_left
        · (intro w' hS; have q1 := G1.out w' hS; have q2 := G2.out w' hS; clear hS; go_simp; with_reducible rfl)
        simp only [Act.put, List.setIfInBounds_toArray, List.set_cons_zero, List.set_cons_succ]
        refine AnyK.take (oi := { dst := _, op := _, type := _, pos := _, after := _, guard := _ }) 6 ?_ rfl (by kernel_rfl) (fun _ _ _ h => h) (Or.inl ⟨by rfl, ?_⟩) HS0.out ?_
        rotate_left
        · (intro w' hS; have q1 := G1.out w' hS; have q2 := G2.out w' hS; clear hS; go_simp; with_reducible rfl)
        simp only [Act.put, List.setIfInBounds_toArray, List.set_cons_zero, List.set_cons_succ]
        have HC9 := Lib.hid (HFD.out _ HS0.out)
        refine AnyK.one 7 (by kernel_rfl) rfl (fun KK hK => ?_)
        go_simp
        refine HC9.out.mono ?_
        rintro e U1 ⟨rfl, hb⟩
        have HS1 := Lib.hid (HS0.out.trans (hb.mono HS0.out.size))
        clear hb
        refine hK _ _ HS1.out ?_
        clear hK
        refine AnyK.late 8 (by kernel_rfl) (by kernel_rfl) rfl (fun KK hK => ?_)
        go_simp
        refine hK _ _ ?_
        clear hK
        refine AnyK.done (by kernel_rfl) ?_ _
        have HX9 := Lib.hid ((HS1.out.block _ (heap_lt HX3.out)).trans HX3.out)
        have HB9 := Lib.hid (HB3.out.trans (HS1.out.mono HB3.out.size))
        have HO9 := Lib.hid (own_keep1 HO3.out (fun k hk => HS1.out.block k (own_type HO3.out hk).2.1))
        have hl9 := lenV_own HO3.out
        have R1 := Lib.hid (show hasU ds (findU ds x.base) 2 = hasU ds (nextU ds (i : Int)) 2 by rw [← HRN.out]; exact rnext_has)
        have R2 := Lib.hid (show hasU ds (findU ds x.base) 2 = true → findU ds x.base = nextU ds (i : Int) by rw [← HRN.out]; exact rnext_next)
        go_wp2_with fail
        refine ⟨⟨_, nextU ds (i : Int), out ++ [(i : Int)], rfl, R1.out, R2.out, HST.out, ?_, HX9.out, HB9.out⟩, by first | omega | (simp; omega)⟩
        rw [List.length_append, List.map_append, hs0]
        exact HO9.out

end Go.Proofs.Ytnjfbcoddbeggaa
