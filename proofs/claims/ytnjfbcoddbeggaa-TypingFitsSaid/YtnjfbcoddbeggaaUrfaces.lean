/-
  The document's interfaces of a class.
-/
import Derived.Test.YtnjfbcoddbeggaaUrchain
namespace Go.Proofs.Ytnjfbcoddbeggaa
open Go Go.ChangeShapes Go.WideShapes Go.ChangeAt Go.RowKit Go.Joins

set_option maxHeartbeats 6400000 in
set_option maxRecDepth 100000 in
theorem rfaces_any (W : World) (lim : Nat) (a : Option Addr) (l c : Nat) (ds : List DeclU) (hr : Row shDecl (fun k => k < lim) W a l ds) (hl : lim ≤ W.heap.size) (hf : l ≤ 16) (hf8 : Few ds) (d : Int) :
    Calls Try.prog 23 #[.agg #[.slice a l c], .int .i64 d] W fun e W' => ∃ v, e = .returned v ∧ W'.ownsRow W.heap.size 3 1 v (facesU ds d).length ((facesU ds d).map iv) ∧ Below W.heap.size W W' := by
  have hb0 := (Below.refl W.heap.size W).alloc (Nat.le_refl _) (.cells #[.slice a l c] 24)
  have HB0 := Lib.hid hb0
  have hx0 : (W.alloc (.cells #[.slice a l c] 24)).heap[W.heap.size]? = some (.cells #[.slice a l c] 24 (0, 0)) := heap_alloc_new W _
  have HX0 := Lib.hid hx0
  have HR := Lib.hid hr
  have HL := Lib.hid hl
  have HF8 := Lib.hid hf8
  have hdl := hr.1
  have hs0 : (W.alloc (.cells #[.slice a l c] 24)).heap.size = W.heap.size + 1 := by simp
  have hch := rchain_any (W.alloc (.cells #[.slice a l c] 24)) lim a l c ds (row_lim hr (hb0.mono hl)) (by rw [hs0]; omega) hf d
  have f0 : (W.alloc (.cells #[.slice a l c] 24)).cell? ⟨W.heap.size, 0, none⟩ = some (.slice a l c) := by rw [Lib.cell_of_heap hx0]; rfl
  have hcl := chain_len ds d
  have hcm : ∀ c ∈ chainU ds d, hasU ds c 2 = true := fun c hc => chain_cls hc
  obtain ⟨G, hG⟩ : ∃ G, facesU ds d = G := ⟨_, rfl⟩
  rw [hG]
  unfold facesU at hG
  generalize chainU ds d = C at *
  have HG := Lib.hid hG
  have HCM := Lib.hid hcm
  clear hr hl hf8 hb0 hx0 hG hcm
  go_enter Try.func23, Try.ntmps23
  go_wp2_with (go_at_call 22; refine hch.mono ?_)
  rintro e V1 ⟨cv, rfl, hown1, hb1⟩
  clear hch f0
  have HX1 := Lib.hid ((hb1.block _ (by rw [hs0]; omega)).trans HX0.out)
  have HB1 := Lib.hid (HB0.out.trans (hb1.mono (by rw [hs0]; omega)))
  obtain ⟨ca, cl, cc, rfl⟩ : ∃ ca cl cc, cv = .slice ca cl cc := by
    rcases ownsRow_forms hown1 with ⟨h, _⟩ | ⟨g, cap, h⟩
    · exact ⟨_, _, _, h⟩
    · exact ⟨_, _, _, h⟩
  have hcl2 : cl = C.length := by have := lenV_own hown1; exact this
  have hm1 : cl ≤ 9223372036854775807 := by omega
  have hc16 : cl ≤ 16 := by omega
  have HCL := Lib.hid hcl2
  clear hcl2
  have HO1 := Lib.hid hown1
  have hWV : W.heap.size < V1.heap.size := heap_lt HX1.out
  clear hb1 hown1
  go_wp2_with fail
  go_loopw [7, 5] (fun ix fv wr => ∃ (k : Nat) (out : List Int), k ≤ cl ∧ ix = .int .i64 k ∧ ((C.take k).flatMap (facesOf ds)).foldl addNew [] = out ∧ out.length ≤ 8 * k ∧ wr.ownsRow V1.heap.size 3 1 fv out.length (out.map iv) ∧ Below V1.heap.size V1 wr) (fun ix _ _ => cl - (intOf ix).toNat)
  case atStart => exact ⟨0, [], Nat.zero_le _, rfl, rfl, by simp, World.ownsRow_nil _ _ _ _, Below.refl _ _⟩
  case round =>
    obtain ⟨k, out, hk, rfl, hout, hol, hown, hq⟩ := hrel
    have HOWN := Lib.hid hown
    have HOUT := Lib.hid hout
    have HQ := Lib.hid hq
    have hsq := hq.size
    by_cases hlt : k < cl
    · have i0 : (k : Int) < (cl : Int) := by omega
      have i2 : decide (k < cl) = true := decide_eq_true hlt
      have i1 : (0 : Int) ≤ (k : Int) := by omega
      have hrow := (ints_row (S := fun _ => True) (own_keep1 HO1.out (w' := wr) (fun k hk => hq.block k (own_type HO1.out hk).2.1)) (fun _ _ => trivial)).1
      obtain ⟨cb, co, c0, vs, rfl, _, hx0, hca, hI⟩ := hrow.item hlt
      obtain rfl := int_is.1 hI
      have e1 : wr.cell? ⟨cb, co + k, none⟩ = some (.int .i64 c0) := by have := hca 0 _ rfl; rw [show co + k * shInt.n + 0 = co + k by show co + k * 1 + 0 = _; omega] at this; exact this
      obtain ⟨i, x, rfl, hix, -⟩ := has_spec.1 (HCM.out c0 (List.mem_of_getElem? hx0))
      have hil : i < l := by have := (List.getElem?_eq_some_iff.1 hix).1; omega
      have n0 : (i : Int) < (l : Int) := by omega
      have n1 : (0 : Int) ≤ (i : Int) := by omega
      have HBW := Lib.hid (HB1.out.trans (hq.mono HB1.out.size))
      obtain ⟨bb, o, x', vsx, rfl, _, hx, hcx, hIx⟩ := (row_lim HR.out (HBW.out.mono HL.out)).item hil
      obtain rfl := Option.some.inj (hix.symm.trans hx)
      obtain ⟨a3, l3, c3, a6, l6, c6, a7, l7, c7, d8, a8, l8, c8, rfl, hr3, -⟩ := decl_is.1 hIx
      have e3 : wr.cell? ⟨bb, o + i * 11 + 3, none⟩ = some (.slice a3 l3 c3) := hcx 3 _ rfl
      have e0 : wr.cell? ⟨W.heap.size, 0, none⟩ = some (.slice (some ⟨bb, o, none⟩) l c) := by rw [Lib.cell_of_heap ((hq.block _ hWV).trans HX1.out)]; rfl
      have hl3 : l3 ≤ 8 := by rw [← hr3.1]; exact (HF8.out i x hix).1
      have HR3 := Lib.hid hr3
      have HTK := Lib.hid (show (C.take (k + 1)).flatMap (facesOf ds) = (C.take k).flatMap (facesOf ds) ++ ownFaces ds x.faces by rw [take_snoc hx0, List.flatMap_append]; simp [facesOf_at hix])
      clear hrow hx0 hca hI hix hx hcx hIx hr3 hown hq hout
      go_upto_region 6 with fail
      go_quiet (fail)
      have HBQ := Lib.hid (show Below W.heap.size W (wr.drewN nq) from below_drew HBW.out nq)
      have HQQ := Lib.hid (show Below V1.heap.size V1 (wr.drewN nq) from below_drew HQ.out nq)
      have HOQ := Lib.hid (own_keep1 HOWN.out (w' := wr.drewN nq) (fun _ _ => rfl))
      have HR3Q := Lib.hid (show Row shStr (fun k => k < lim) (wr.drewN nq) a3 l3 x.faces from Row.keep (W := wr) (fun _ _ => rfl) HR3.out)
      have hsq2 := HQQ.out.size
      have HQV := HQQ
      clear e0 e1 e3 HQ HOWN HR3 HBW
      generalize wr.drewN nq = V2 at *
      go_wp2_with fail
      go_loopg [9, 10, 5] l3 (fun gn jx _ fv wq => ∃ (j : Nat) (out2 : List Int), gn + j = l3 ∧ jx = .int .i64 j ∧ (ownFaces ds (x.faces.take j)).foldl addNew out = out2 ∧ out2.length ≤ 8 * k + j ∧ wq.ownsRow V1.heap.size 3 1 fv out2.length (out2.map iv) ∧ Below V1.heap.size V1 wq)
      case atStart => exact ⟨0, out, rfl, rfl, rfl, by omega, HOQ.out, HQQ.out⟩
      case round =>
        obtain ⟨j, out2, hj, rfl, hout2, hol2, hown2, hq2⟩ := hrel
        clear HOQ HQQ HBQ
        have hsq3 := hq2.size
        have HBW := Lib.hid (HB1.out.trans (hq2.mono HB1.out.size))
        have HOUT2 := Lib.hid hout2
        have HO2 := Lib.hid hown2
        have HQ2 := Lib.hid hq2
        by_cases hjl : j < l3
        · have j0 : (j : Int) < (l3 : Int) := by omega
          have j2 : decide (j < l3) = true := decide_eq_true hjl
          have j1 : (0 : Int) ≤ (j : Int) := by omega
          have hrs : Row shStr (fun k => k < lim) wr a3 l3 x.faces := Row.keep (W := V2) (fun q hq => by have h1 := HL.out; have h2 := hq2.block q (by omega); have h3 := HQV.out.block q (by omega); rw [h2, h3]) HR3Q.out
          obtain ⟨b3, o3, s, vs3, rfl, _, hs, hc3, hI3⟩ := hrs.item hjl
          obtain rfl := str_is.1 hI3
          have e2 : wr.cell? ⟨b3, o3 + j, none⟩ = some (.string s) := by have := hc3 0 _ rfl; rw [show o3 + j * shStr.n + 0 = o3 + j by show o3 + j * 1 + 0 = _; omega] at this; exact this
          have e0 : wr.cell? ⟨W.heap.size, 0, none⟩ = some (.slice (some ⟨bb, o, none⟩) l c) := by rw [Lib.cell_of_heap ((hq2.block _ hWV).trans HX1.out)]; rfl
          have b2 := World.block_lt_of_cell? _ _ e2
          have b0 := World.block_lt_of_cell? _ _ e0
          have G1 := Lib.hid (fun (w' : World) (h : Below wr.heap.size wr w') => (h.cell b0).trans e0)
          have G2 := Lib.hid (fun (w' : World) (h : Below wr.heap.size wr w') => (h.cell b2).trans e2)
          have HS0 := Lib.hid (show Below wr.heap.size wr wr.drew from ⟨rfl, rfl, rfl, Nat.le_refl _, fun _ _ => rfl⟩)
          have hrow := fun (V : World) (hb : Below wr.heap.size wr V) => row_lim HR.out ((HBW.out.trans (hb.mono HBW.out.size)).mono HL.out)
          have hlt2 := fun (V : World) (hb : Below wr.heap.size wr V) (k : Nat) (hk : k < lim) => (show k < V.heap.size by have := HBW.out.size; have := hb.size; have := HL.out; omega)
          have hfd := fun (V : World) (hb : Below wr.heap.size wr V) => rfind_any (fun k => k < lim) V (hlt2 V hb) (some ⟨bb, o, none⟩) l c ds (hrow V hb) s
          have hkd := fun (V : World) (hb : Below wr.heap.size wr V) => kind_any (fun k => k < lim) V (hlt2 V hb) (some ⟨bb, o, none⟩) l c ds (hrow V hb) (findU ds s)
          have HFD := Lib.hid hfd
          have HKD := Lib.hid hkd
          have HTJ := Lib.hid (show ownFaces ds (x.faces.take (j + 1)) = ownFaces ds (x.faces.take j) ++ (if hasU ds (findU ds s) 1 = true then [findU ds s] else []) by rw [take_snoc hs, ownFaces_snoc])
          have HK1 := Lib.hid (kind_has (ds := ds) (d := findU ds s) (k := 1) (by omega))
          clear hrs hs hc3 hI3 e2 e0 b2 b0 hrow hlt2 hfd hkd hown2 hq2 hout2
          generalize findU ds s = f at *
          generalize kindU ds f = kd at *
          go_upto_region 10 with fail
          refine AnyK.start 6 (fun w' => Below wr.heap.size wr w') rfl HS0.out (fun _ => ?_)
          refine AnyK.take (oi := { dst := _, op := _, type := _, pos := _, after := _, guard := _ }) 0 ?_ rfl (by kernel_rfl) (fun _ _ _ h => h) (Or.inl ⟨by rfl, ?_⟩) HS0.out ?_
          rotate_left
          · (intro w' hS; have q1 := G1.out w' hS; have q2 := G2.out w' hS; clear hS; go_simp; with_reducible rfl)
          simp only [Act.put, List.setIfInBounds_toArray, List.set_cons_zero, List.set_cons_succ]
          refine AnyK.take (oi := { dst := _, op := _, type := _, pos := _, after := _, guard := _ }) 1 ?_ rfl (by kernel_rfl) (fun _ _ _ h => h) (Or.inl ⟨by rfl, ?_⟩) HS0.out ?_
          rotate_left
          · (intro w' hS; have q1 := G1.out w' hS; have q2 := G2.out w' hS; clear hS; go_simp; with_reducible rfl)
          simp only [Act.put, List.setIfInBounds_toArray, List.set_cons_zero, List.set_cons_succ]
          refine AnyK.take (oi := { dst := _, op := _, type := _, pos := _, after := _, guard := _ }) 2 ?_ rfl (by kernel_rfl) (fun _ _ _ h => h) (Or.inl ⟨by rfl, ?_⟩) HS0.out ?_
          rotate_left
          · (intro w' hS; have q1 := G1.out w' hS; have q2 := G2.out w' hS; clear hS; go_simp; with_reducible rfl)
          simp only [Act.put, List.setIfInBounds_toArray, List.set_cons_zero, List.set_cons_succ]
          refine AnyK.take (oi := { dst := _, op := _, type := _, pos := _, after := _, guard := _ }) 3 ?_ rfl (by kernel_rfl) (fun _ _ _ h => h) (Or.inl ⟨by rfl, ?_⟩) HS0.out ?_
          rotate_left
          · (intro w' hS; have q1 := G1.out w' hS; have q2 := G2.out w' hS; clear hS; go_simp; with_reducible rfl)
          simp only [Act.put, List.setIfInBounds_toArray, List.set_cons_zero, List.set_cons_succ]
          refine AnyK.take (oi := { dst := _, op := _, type := _, pos := _, after := _, guard := _ }) 4 ?_ rfl (by kernel_rfl) (fun _ _ _ h => h) (Or.inl ⟨by rfl, ?_⟩) HS0.out ?_
          rotate_left
          · (intro w' hS; have q1 := G1.out w' hS; have q2 := G2.out w' hS; clear hS; go_simp; with_reducible rfl)
          simp only [Act.put, List.setIfInBounds_toArray, List.set_cons_zero, List.set_cons_succ]
          have HC9 := Lib.hid (HFD.out _ HS0.out)
          refine AnyK.one 5 (by kernel_rfl) rfl (fun KK hK => ?_)
          go_simp
          refine HC9.out.mono ?_
          rintro e U1 ⟨rfl, hb⟩
          have HS1 := Lib.hid (HS0.out.trans (hb.mono HS0.out.size))
          clear hb
          refine hK _ _ HS1.out ?_
          clear hK
          refine AnyK.late 6 (by kernel_rfl) (by kernel_rfl) rfl (fun KK hK => ?_)
          go_simp
          refine hK _ _ ?_
          clear hK
          refine AnyK.done (by kernel_rfl) ?_ _
          have u0 : U1.cell? ⟨W.heap.size, 0, none⟩ = some (.slice (some ⟨bb, o, none⟩) l c) := G1.out U1 HS1.out
          have hkd := HKD.out U1 HS1.out
          go_wp2_with (go_at_call 48; refine hkd.mono ?_)
          rintro e U2 ⟨rfl, hb⟩
          have HS2 := Lib.hid (HS1.out.trans (hb.mono HS1.out.size))
          clear hb hkd u0
          have HQ3 := Lib.hid (HQ2.out.trans (HS2.out.mono HQ2.out.size))
          have HO3 := Lib.hid (own_keep1 HO2.out (fun k hk => HS2.out.block k (own_type HO2.out hk).2.1))
          have hsU := HQ3.out.size
          cases h1 : hasU ds f 1 with
          | false =>
            have t1 : (kd == 1) = false := HK1.out.trans h1
            have HOU := Lib.hid (show (ownFaces ds (x.faces.take (j + 1))).foldl addNew out = out2 by rw [HTJ.out, h1]; simp [HOUT2.out])
            clear h1
            go_wp2_with fail
            go_roundg (gk - 1)
            case measure => omega
            case rel => exact ⟨j + 1, out2, by omega, by go_num, HOU.out, by omega, HO3.out, HQ3.out⟩
          | true =>
            have t1 : (kd == 1) = true := HK1.out.trans h1
            obtain ⟨ga, gl, gc, rfl⟩ : ∃ ga gl gc, u5 = .slice ga gl gc := by
              rcases ownsRow_forms HO3.out with ⟨h, _⟩ | ⟨g, cap, h⟩
              · exact ⟨_, _, _, h⟩
              · exact ⟨_, _, _, h⟩
            have hhs := rhas_any (fun _ => True) U2 ga gl gc out2 (ints_row HO3.out (fun _ _ => trivial)).1 f
            have hadd : (ownFaces ds (x.faces.take (j + 1))).foldl addNew out = addNew out2 f := by rw [HTJ.out, h1, List.foldl_append, HOUT2.out]; rfl
            have HADD := Lib.hid hadd
            clear h1 hadd
            cases hct : out2.contains f with
            | true =>
              rw [hct] at hhs
              have HOU := Lib.hid (HADD.out.trans (show addNew out2 f = out2 by unfold addNew; rw [hct]; rfl))
              clear hct
              go_wp2_with (go_at_call 53; refine hhs.mono ?_)
              rintro e U3 ⟨rfl, rfl⟩
              clear hhs
              go_wp2_with fail
              go_roundg (gk - 1)
              case measure => omega
              case rel => exact ⟨j + 1, out2, by omega, by go_num, HOU.out, by omega, HO3.out, HQ3.out⟩
            | false =>
              rw [hct] at hhs
              have HOU := Lib.hid (HADD.out.trans (show addNew out2 f = out2 ++ [f] by unfold addNew; rw [hct]; rfl))
              have HOA := Lib.hid (HO3.out.alloc (.cells #[.int .i64 f] 3))
              obtain ⟨i3, hi3, hz0, hz1, hz2⟩ := info_parts info3
              clear hct
              go_wp2_with (go_at_call 53; refine hhs.mono ?_)
              rintro e U3 ⟨rfl, rfl⟩
              clear hhs
              go_wp2_with (at_builtin; refine wpList_append_own _ rfl (.tmp 51) (.tmp 53) 32 rfl V1.heap.size 3 i3 (.int .i64 0) 1 8 Try.underlying32 hi3 hz0 hz1 hz2 rfl (by decide) (.slice ga gl gc) out2.length (out2.map iv) rfl HOA.out ⟨U3.heap.size, 0, none⟩ 1 1 [.int .i64 f] rfl rfl ?c1 ?c2 ?c3 ?c4 ?c5 ?_)
              case c1 => exact lit_cells U3 #[.int .i64 f] 3
              case c2 => intro u hu; simp only [List.mem_singleton] at hu; subst hu; rfl
              case c3 => unfold maxLen; omega
              case c4 => omega
              case c5 => simp; omega
              intro v6 w6 hown6 hgrow6 _
              have hlow : ∀ q, q < V1.heap.size → w6.heap[q]? = U3.heap[q]? := fun q hq => (hgrow6.block q (by first | omega | (simp; omega)) (fun h => by have := (own_type HO3.out h.symm).1; omega)).trans (Below.heap_alloc _ _ _ (by omega))
              have HQ6 := Lib.hid (HQ3.out.trans (show Below V1.heap.size U3 w6 from ⟨hgrow6.os, hgrow6.tape, hgrow6.output, Nat.le_trans (by simp) hgrow6.size, hlow⟩))
              have HO6 := Lib.hid hown6
              clear hown6 hgrow6 hlow HOA
              go_wp2_with fail
              go_roundg (gk - 1)
              case measure => omega
              case rel =>
                refine ⟨j + 1, out2 ++ [f], by omega, by go_num, HOU.out, by rw [List.length_append, List.length_singleton]; omega, ?_, HQ6.out⟩
                rw [List.length_append, List.map_append]
                exact HO6.out
        · obtain rfl : j = l3 := by omega
          have HOU := Lib.hid (show ((C.take (k + 1)).flatMap (facesOf ds)).foldl addNew [] = out2 by rw [HTK.out, List.foldl_append, HOUT.out, ← hout2, List.take_of_length_le (by have := HR3Q.out.1; omega)])
          clear hown2 hq2 hout2
          go_wp2_with fail
          exact ⟨⟨k + 1, out2, by omega, by go_num, HOU.out, by omega, HO2.out, HQ2.out⟩, by simp [intOf]; omega⟩
    · obtain rfl : k = cl := by omega
      obtain rfl : out = G := by rw [← hout, List.take_of_length_le (by have := HCL.out; omega)]; exact HG.out
      have HBL := Lib.hid (HB1.out.trans (hq.mono HB1.out.size))
      clear hown hout hq
      go_wp2_with fail
      go_returns
      exact ⟨u5, by simp, own_mono HOWN.out (by omega), HBL.out⟩

end Go.Proofs.Ytnjfbcoddbeggaa
