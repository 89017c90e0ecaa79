/-
  TableIs: the walk.
-/
import Derived.Test.YtnjfbcoddbeggaaUtab
import Derived.Test.YtnjfbcoddbeggaaUpto
namespace Go.Proofs.Ytnjfbcoddbeggaa
open Go Go.ChangeShapes Go.WideShapes Go.ChangeAt Go.RowKit Go.Joins

theorem wf_small (d : Int) (h0 : 0 ≤ d) (h1 : d ≤ 1000) : (Lit.int .i64 d).wf = true := by
  simp [Lit.wf, IntKind.min, IntKind.max, IntKind.signed, IntKind.bits]
  omega
theorem find_own {ds : List DeclU} {i : Nat} {x : DeclU} (h : ds[i]? = some x) : ∃ n : Nat, findU ds x.name = (n : Int) ∧ n < ds.length := by
  rcases find_spec ds x.name with ⟨_, h2⟩ | ⟨k, y, h1, h2, _⟩
  · exact absurd rfl (h2 i x h)
  · exact ⟨k, h1, (List.getElem?_eq_some_iff.1 h2).1⟩
set_option maxHeartbeats 6400000 in
set_option maxRecDepth 100000 in
theorem tableIs_any (haw : ∀ w, Calls Try.prog 12 #[] w fun e w' => e = .returned (.bool true) ∧ Below w.heap.size w w') (W : World) (a : Option Addr) (l c : Nat) (ds : List DeclU) (hr : Row shDecl (fun k => k < W.heap.size) W a l ds) (i j k : Int) :
    Calls Try.prog 4 #[.agg #[.slice a l c], .int .i64 i, .int .i64 j, .int .i64 k] W fun e W' => e = .returned (.bool true) ∧ Below W.heap.size W W' := by
  have hml : l ≤ 9223372036854775807 := by have := hr.le; unfold maxLen at this; omega
  have hb0 := (Below.refl W.heap.size W).alloc (Nat.le_refl _) (.cells #[.slice a l c] 24)
  have hx0 : (W.alloc (.cells #[.slice a l c] 24)).heap[W.heap.size]? = some (.cells #[.slice a l c] 24 (0, 0)) := heap_alloc_new W _
  have hgr := great_any W.heap.size (W.alloc (.cells #[.slice a l c] 24)) a l c 200 ds (row_lim hr hb0) (by simp)
  have f0 : (W.alloc (.cells #[.slice a l c] 24)).cell? ⟨W.heap.size, 0, none⟩ = some (.slice a l c) := by rw [Lib.cell_of_heap hx0]; rfl
  have HR := Lib.hid hr
  have HB0 := Lib.hid hb0
  have HX0 := Lib.hid hx0
  have HAW := Lib.hid haw
  have hsz0 : (W.alloc (.cells #[.slice a l c] 24)).heap.size = W.heap.size + 1 := by simp
  clear hr hb0 hx0 haw
  go_enter Try.func4, Try.ntmps4
  go_wp2_with (go_at_call 11; refine hgr.mono ?_)
  rintro e V1 ⟨β, rfl, hfew, hb1⟩
  clear hgr f0
  have HB1 := Lib.hid (HB0.out.trans (hb1.mono (by rw [hsz0]; omega)))
  have HX1 := Lib.hid ((hb1.block _ (heap_lt HX0.out)).trans HX0.out)
  have HF1 := Lib.hid hfew
  have hs1 := hb1.size
  rw [hsz0] at hs1
  clear hb1 hfew
  cases β with
  | true =>
    go_wp2_with (go_at_call 12; refine (HAW.out _).mono ?_)
    rintro e V2 ⟨rfl, hb2⟩
    have HB2 := Lib.hid (HB1.out.trans (hb2.mono HB1.out.size))
    clear hb2
    go_wp2_with fail
    go_returns
    exact ⟨rfl, HB2.out⟩
  | false =>
  obtain ⟨hl16, hf8⟩ := HF1.out rfl
  have HF8 := Lib.hid hf8
  have f1 : V1.cell? ⟨W.heap.size, 0, none⟩ = some (.slice a l c) := by rw [Lib.cell_of_heap HX1.out]; rfl
  clear HF1 hf8
  cases hl0 : ((l : Int) == 0) with
  | true =>
    go_wp2_with (go_at_call 12; refine (HAW.out _).mono ?_)
    rintro e V2 ⟨rfl, hb2⟩
    have HB2 := Lib.hid (HB1.out.trans (hb2.mono HB1.out.size))
    clear hb2
    go_wp2_with fail
    go_returns
    exact ⟨rfl, HB2.out⟩
  | false =>
  have hlp : 1 ≤ l := by
    rcases Nat.eq_zero_or_pos l with h | h
    · subst h; simp at hl0
    · exact h
  have hdl : ds.length = l := HR.out.1
  go_upto_region 4 with fail
  have hll : (1 : Int) ≤ (l : Int) := by omega
  have hll2 : (l : Int) ≤ 10000000000000 := by omega
  obtain ⟨bb, oo, x0_, vs_, rfl, _, _, _, _⟩ := (row_lim HR.out HB1.out).item (show 0 < l by omega)
  have hRa := row_lim HR.out HB1.out
  obtain ⟨ka, hka⟩ : ∃ m : Nat, low i l = (m : Int) := ⟨(low i l).toNat, by have := low_bd i l hll; unfold low; omega⟩
  have hkal : ka < l := by have := low_bd i l hll; unfold low at hka; omega
  have pa0 : (0 : Int) ≤ (ka : Int) := by omega
  have pa1 : (ka : Int) < (l : Int) := by omega
  obtain ⟨ba, oa, xa, vsa, hea, _, hxa, hca, hIa⟩ := hRa.item hkal
  cases hea
  obtain ⟨a3, l3, c3, a6, l6, c6, a7, l7, c7, d8, a8, l8, c8, rfl, -⟩ := decl_is.1 hIa
  have ea : V1.cell? ⟨bb, oo + ka * 11 + 1, none⟩ = some (.string xa.name) := hca 1 _ rfl
  have HXa := Lib.hid hxa
  clear hca hIa hxa
  obtain ⟨kb, hkb⟩ : ∃ m : Nat, low j l = (m : Int) := ⟨(low j l).toNat, by have := low_bd j l hll; unfold low; omega⟩
  have hkbl : kb < l := by have := low_bd j l hll; unfold low at hkb; omega
  have pb0 : (0 : Int) ≤ (kb : Int) := by omega
  have pb1 : (kb : Int) < (l : Int) := by omega
  obtain ⟨bb, ob, xb, vsb, heb, _, hxb, hcb, hIb⟩ := hRa.item hkbl
  cases heb
  obtain ⟨a3, l3, c3, a6, l6, c6, a7, l7, c7, d8, a8, l8, c8, rfl, -⟩ := decl_is.1 hIb
  have eb : V1.cell? ⟨bb, oo + kb * 11 + 1, none⟩ = some (.string xb.name) := hcb 1 _ rfl
  have HXb := Lib.hid hxb
  clear hcb hIb hxb
  obtain ⟨kc, hkc⟩ : ∃ m : Nat, low k l = (m : Int) := ⟨(low k l).toNat, by have := low_bd k l hll; unfold low; omega⟩
  have hkcl : kc < l := by have := low_bd k l hll; unfold low at hkc; omega
  have pc0 : (0 : Int) ≤ (kc : Int) := by omega
  have pc1 : (kc : Int) < (l : Int) := by omega
  obtain ⟨bc, oc, xc, vsc, hec, _, hxc, hcc, hIc⟩ := hRa.item hkcl
  cases hec
  obtain ⟨a3, l3, c3, a6, l6, c6, a7, l7, c7, d8, a8, l8, c8, rfl, -⟩ := decl_is.1 hIc
  have ec : V1.cell? ⟨bb, oo + kc * 11 + 1, none⟩ = some (.string xc.name) := hcc 1 _ rfl
  have HXc := Lib.hid hxc
  clear hcc hIc hxc
  have hlow : ∀ (n : Nat) (x : Int) (m : Nat), low x l = (m : Int) → Calls Try.prog 13 #[.int .i64 x, .int .i64 l] (V1.drewN n) fun e w' => e = .returned (.int .i64 (m : Int)) ∧ w' = V1.drewN n := fun n x m h => by
    have h2 := low_any x l hll hll2 (V1.drewN n)
    rw [h] at h2
    exact h2
  go_quiet ((go_at_call 13; exact Calls.quiet_of_same (hlow _ _ _ (by assumption))))
  have HX2 := Lib.hid (show (V1.drewN nq).heap[W.heap.size]? = some (.cells #[.slice (some ⟨bb, oo, none⟩) l c] 24 (0, 0)) from HX1.out)
  have HB2 := Lib.hid (show Below W.heap.size W (V1.drewN nq) from below_drew HB1.out nq)
  clear hlow f1 HX1 HB1 HB0 HX0 ea hka pa0 pa1 eb hkb pb0 pb1 ec hkc pc0 pc1
  generalize V1.drewN nq = V2 at *
  go_upto_region 5 with fail
  obtain ⟨dn, hdn, hdnl⟩ := find_own HXa.out
  rw [hdl] at hdnl
  have f2 : V2.cell? ⟨W.heap.size, 0, none⟩ = some (.slice (some ⟨bb, oo, none⟩) l c) := by rw [Lib.cell_of_heap HX2.out]; rfl
  have hfd := find_any (fun k => k < W.heap.size) V2 (fun k hk => Nat.lt_of_lt_of_le hk HB2.out.size) _ l c ds (row_lim HR.out HB2.out) xa.name
  rw [hdn] at hfd
  go_wp2_with (go_at_call 19; refine hfd.mono ?_)
  rintro e V3 ⟨rfl, hb3⟩
  have HX3 := Lib.hid ((hb3.block _ (heap_lt HX2.out)).trans HX2.out)
  have HB3 := Lib.hid (HB2.out.trans (hb3.mono HB2.out.size))
  clear hfd hb3 f2
  have f3 : V3.cell? ⟨W.heap.size, 0, none⟩ = some (.slice (some ⟨bb, oo, none⟩) l c) := by rw [Lib.cell_of_heap HX3.out]; rfl
  have d0 : (0 : Int) ≤ (dn : Int) := by omega
  have d1 : (dn : Int) < (l : Int) := by omega
  have d2 : decide ((dn : Int) < 0) = false := decide_eq_false (by omega)
  have d3 : decide ((l : Int) ≤ (dn : Int)) = false := decide_eq_false (by omega)
  have d4 : decide (l ≤ dn) = false := decide_eq_false (by omega)
  obtain ⟨bd, od, xd, vsd, hed, _, hxd, hcd, hId⟩ := (row_lim HR.out HB3.out).item hdnl
  cases hed
  obtain ⟨a3, l3, c3, a6, l6, c6, a7, l7, c7, d8, a8, l8, c8, rfl, -⟩ := decl_is.1 hId
  have ed : V3.cell? ⟨bb, oo + dn * 11, none⟩ = some (.int .i64 xd.kind) := hcd 0 _ rfl
  have hthing : (hasU ds (findU ds xa.name) 2 || hasU ds (findU ds xa.name) 1) = ((xd.kind == 2) || (xd.kind == 1)) := by rw [hdn, has_in hxd, has_in hxd]
  have hself := is_self ds xa.name
  rw [hthing] at hself
  obtain ⟨γ, hγ⟩ : ∃ γ, ((xd.kind == 2) || (xd.kind == 1)) = γ := ⟨_, rfl⟩
  have hiab : isU ds xa.name xb.name = true → γ = true := fun h => by
    rw [is_comes, hthing, hγ, Bool.and_eq_true] at h
    exact h.1
  rw [hγ] at hself
  have HIAB := Lib.hid hiab
  have HSELF := Lib.hid hself
  have HDN := Lib.hid hdn
  have HXD := Lib.hid hxd
  clear hcd hId hthing hiab hself hdn hxd
  have hna : xa.name.size ≤ 1000 := by have := (HF8.out _ _ HXa.out).2; omega
  have hnb : xb.name.size ≤ 1000 := by have := (HF8.out _ _ HXb.out).2; omega
  have hnc : xc.name.size ≤ 1000 := by have := (HF8.out _ _ HXc.out).2; omega
  have htis := fun (V : World) (hb : Below W.heap.size W V) (s u : ByteArray) (hs : s.size ≤ 1000) (hu : u.size ≤ 1000) => tis_any V W.heap.size (some ⟨bb, oo, none⟩) l c ds (row_lim HR.out hb) hb.size hl16 HF8.out s u hs hu
  have HTIS := Lib.hid htis
  clear htis
  go_upto_region 8 with fail
  go_cut [14] from 65 to 80 (fun v wx => v = .bool γ ∧ wx = V3)
  case first =>
    cases hk2 : (xd.kind == 2) with
    | true =>
      go_wp2_with fail
      go_meet
      exact ⟨by rw [← hγ, hk2]; rfl, rfl⟩
    | false =>
    cases hk1 : (xd.kind == 1) with
    | true =>
      go_wp2_with fail
      go_meet
      exact ⟨by rw [← hγ, hk2, hk1]; rfl, rfl⟩
    | false =>
      go_wp2_with fail
      go_meet
      exact ⟨by rw [← hγ, hk2, hk1]; rfl, rfl⟩
  case rest =>
  obtain ⟨rfl, rfl⟩ := hcut
  clear ed hγ
  have h9 := HTIS.out _ HB3.out xa.name xa.name hna hna
  rw [HSELF.out] at h9
  obtain ⟨γ2, hγ2⟩ : ∃ γ2, isU ds xa.name xb.name = γ2 := ⟨_, rfl⟩
  go_upto_region 9 with fail
  go_cut [96] from 81 to 95 (fun v wx => v = .bool false ∧ wx.heap[W.heap.size]? = some (.cells #[.slice (some ⟨bb, oo, none⟩) l c] 24 (0, 0)) ∧ Below W.heap.size W wx)
  case first =>
    have hnn : (γ != γ) = false := by cases γ <;> rfl
    go_wp2_with (go_at_call 24; refine h9.mono ?_)
    rintro e V4 ⟨rfl, hb4⟩
    have HX4 := Lib.hid ((hb4.block _ (heap_lt HX3.out)).trans HX3.out)
    have HB4 := Lib.hid (HB3.out.trans (hb4.mono HB3.out.size))
    have f4 : V4.cell? ⟨W.heap.size, 0, none⟩ = some (.slice (some ⟨bb, oo, none⟩) l c) := by rw [Lib.cell_of_heap HX4.out]; rfl
    have h10 := HTIS.out V4 HB4.out xa.name xb.name hna hnb
    rw [hγ2] at h10
    clear h9 hb4
    cases γ2 with
    | true =>
      obtain rfl : true = γ := (HIAB.out hγ2).symm
      go_wp2_with (go_at_call 24; refine h10.mono ?_)
      rintro e V5 ⟨rfl, hb5⟩
      have HX5 := Lib.hid ((hb5.block _ (heap_lt HX4.out)).trans HX4.out)
      have HB5 := Lib.hid (HB4.out.trans (hb5.mono HB4.out.size))
      clear h10 hb5
      go_wp2_with fail
      go_meet
      exact ⟨rfl, HX5.out, HB5.out⟩
    | false =>
      go_wp2_with (go_at_call 24; refine h10.mono ?_)
      rintro e V5 ⟨rfl, hb5⟩
      have HX5 := Lib.hid ((hb5.block _ (heap_lt HX4.out)).trans HX4.out)
      have HB5 := Lib.hid (HB4.out.trans (hb5.mono HB4.out.size))
      clear h10 hb5
      go_wp2_with fail
      go_meet
      exact ⟨rfl, HX5.out, HB5.out⟩
  case rest =>
  obtain ⟨rfl, hX6, hB6⟩ := hcut
  have f6 : wc.cell? ⟨W.heap.size, 0, none⟩ = some (.slice (some ⟨bb, oo, none⟩) l c) := by rw [Lib.cell_of_heap hX6]; rfl
  have hch := tchain_any wc W.heap.size (some ⟨bb, oo, none⟩) l c ds (row_lim HR.out hB6) hB6.size hl16 HF8.out (dn : Int) (wf_small _ (by omega) (by omega))
  have HX6 := Lib.hid hX6
  have HB6 := Lib.hid hB6
  have HDE := HDN.out
  rw [← HDE] at hch
  have HCH := Lib.hid hch
  clear hX6 hB6 hch HDE
  have hch := HCH.out
  rw [HDN.out] at hch
  go_wp2_with (go_at_call 16; refine hch.mono ?_)
  rintro e V7 ⟨v7, rfl, hown7, hb7⟩
  clear hch HCH f6
  have HX7 := Lib.hid ((hb7.block _ (heap_lt HX6.out)).trans HX6.out)
  have HB7 := Lib.hid (HB6.out.trans (hb7.mono HB6.out.size))
  obtain ⟨ca, cl, cc, rfl⟩ : ∃ ca cl cc, v7 = .slice ca cl cc := by
    rcases ownsRow_forms hown7 with ⟨h, _⟩ | ⟨g, cap, h⟩
    · exact ⟨_, _, _, h⟩
    · exact ⟨_, _, _, h⟩
  have hcl : cl = (chainU ds (dn : Int)).length := by have := lenV_own hown7; exact this
  have hclm : cl ≤ 16 := by rw [hcl]; have := chain_len ds (dn : Int); omega
  rw [← HDN.out] at hown7 hcl
  have HO7 := Lib.hid hown7
  clear hown7 hb7
  go_wp2_with fail
  go_loopw [16] (fun ix wr => ∃ k : Nat, k ≤ cl ∧ ix = .int .i64 k ∧ wr.heap[W.heap.size]? = some (.cells #[.slice (some ⟨bb, oo, none⟩) l c] 24 (0, 0)) ∧ Below W.heap.size W wr ∧ Below V7.heap.size V7 wr) (fun ix _ => cl - (intOf ix).toNat)
  case atStart => exact ⟨0, Nat.zero_le _, rfl, HX7.out, HB7.out, Below.refl _ _⟩
  case round =>
    obtain ⟨k, hk, rfl, hX, hB, hq⟩ := hrel
    by_cases hlt : k < cl
    · have i0 : (k : Int) < (cl : Int) := by omega
      have i1 : (0 : Int) ≤ (k : Int) := by omega
      have hrow := (ints_row (S := fun _ => True) (own_keep1 HO7.out (w' := wr) (fun k hk => hq.block k (own_type HO7.out hk).2.1)) (fun _ _ => trivial)).1
      obtain ⟨cb, co, c0, vs0, hce, _, hx0, hca, hI0⟩ := hrow.item hlt
      subst hce
      obtain rfl := int_is.1 hI0
      obtain ⟨n0, y0, rfl, hy0, hky⟩ := has_spec.1 (chain_cls (List.mem_of_getElem? hx0))
      have hnl : n0 < l := by have := (List.getElem?_eq_some_iff.1 hy0).1; omega
      have his : isU ds xa.name y0.name = true := is_chain (List.mem_of_getElem? hx0) (by simpa using hy0)
      have hny : y0.name.size ≤ 1000 := by have := (HF8.out _ _ hy0).2; omega
      obtain ⟨by_, oy_, y1, vsy, hey, _, hy1, hcy, hIy⟩ := (row_lim HR.out hB).item hnl
      cases hey
      obtain rfl := Option.some.inj (hy0.symm.trans hy1)
      obtain ⟨a3, l3, c3, a6, l6, c6, a7, l7, c7, d8, a8, l8, c8, rfl, -⟩ := decl_is.1 hIy
      have e1 : wr.cell? ⟨cb, co + k, none⟩ = some (.int .i64 (n0 : Int)) := by have := hca 0 _ rfl; rw [show co + k * shInt.n + 0 = co + k by show co + k * 1 + 0 = _; omega] at this; exact this
      have e2 : wr.cell? ⟨bb, oo + n0 * 11, none⟩ = some (.int .i64 2) := by rw [← hky]; exact hcy 0 _ rfl
      have e3 : wr.cell? ⟨bb, oo + n0 * 11 + 1, none⟩ = some (.string y0.name) := hcy 1 _ rfl
      have e4 : wr.cell? ⟨W.heap.size, 0, none⟩ = some (.slice (some ⟨bb, oo, none⟩) l c) := by rw [Lib.cell_of_heap hX]; rfl
      have b1 := World.block_lt_of_cell? _ _ e1
      have b2 := World.block_lt_of_cell? _ _ e2
      have b3 := World.block_lt_of_cell? _ _ e3
      have b4 := World.block_lt_of_cell? _ _ e4
      have g1 : ∀ w', Below wr.heap.size wr w' → w'.cell? ⟨cb, co + k, none⟩ = some (.int .i64 (n0 : Int)) := fun w' h => (h.cell b1).trans e1
      have g2 : ∀ w', Below wr.heap.size wr w' → w'.cell? ⟨bb, oo + n0 * 11, none⟩ = some (.int .i64 2) := fun w' h => (h.cell b2).trans e2
      have g3 : ∀ w', Below wr.heap.size wr w' → w'.cell? ⟨bb, oo + n0 * 11 + 1, none⟩ = some (.string y0.name) := fun w' h => (h.cell b3).trans e3
      have g4 : ∀ w', Below wr.heap.size wr w' → w'.cell? ⟨W.heap.size, 0, none⟩ = some (.slice (some ⟨bb, oo, none⟩) l c) := fun w' h => (h.cell b4).trans e4
      have G1 := Lib.hid g1
      have G2 := Lib.hid g2
      have G3 := Lib.hid g3
      have G4 := Lib.hid g4
      have HX := Lib.hid hX
      have HB := Lib.hid hB
      have HQ := Lib.hid hq
      have hcall := fun (V : World) (hb : Below wr.heap.size wr V) => HTIS.out V (HB.out.trans (hb.mono HB.out.size)) xa.name y0.name hna hny
      rw [his] at hcall
      have HCALL := Lib.hid hcall
      have j0 : (0 : Int) ≤ (n0 : Int) := by omega
      have j1 : (n0 : Int) < (l : Int) := by omega
      have j2 : decide ((n0 : Int) < 0) = false := decide_eq_false (by omega)
      have j3 : decide ((l : Int) ≤ (n0 : Int)) = false := decide_eq_false (by omega)
      have j4 : decide (l ≤ n0) = false := decide_eq_false (by omega)
      have HS0 := Lib.hid (show Below wr.heap.size wr wr.drew from ⟨rfl, rfl, rfl, Nat.le_refl _, fun _ _ => rfl⟩)
      clear hrow hx0 hca hI0 hy0 hky his hy1 hcy hIy g1 g2 g3 g4 hX hB hq hcall b1 b2 b3 b4
      go_upto_region 15 with fail
      clear e1 e2 e3 e4
      refine AnyK.start 39 (fun w' => Below wr.heap.size wr w') rfl HS0.out (fun _ => ?_)
      refine AnyK.take (oi := { dst := _, op := _, type := _, pos := _, after := _, guard := _ }) 0 ?_ rfl (by kernel_rfl) (fun _ _ _ h => h) (Or.inl ⟨by rfl, ?_⟩) HS0.out ?_
      rotate_left
      · (intro w' hS; have q1 := G1.out w' hS; have q2 := G2.out w' hS; have q3 := G3.out w' hS; have q4 := G4.out w' hS; clear hS; go_simp; with_reducible rfl)
      simp only [Act.put, List.setIfInBounds_toArray, List.set_cons_zero, List.set_cons_succ]
      refine AnyK.take (oi := { dst := _, op := _, type := _, pos := _, after := _, guard := _ }) 1 ?_ rfl (by kernel_rfl) (fun _ _ _ h => h) (Or.inl ⟨by rfl, ?_⟩) HS0.out ?_
      rotate_left
      · (intro w' hS; have q1 := G1.out w' hS; have q2 := G2.out w' hS; have q3 := G3.out w' hS; have q4 := G4.out w' hS; clear hS; go_simp; with_reducible rfl)
      simp only [Act.put, List.setIfInBounds_toArray, List.set_cons_zero, List.set_cons_succ]
      refine AnyK.take (oi := { dst := _, op := _, type := _, pos := _, after := _, guard := _ }) 2 ?_ rfl (by kernel_rfl) (fun _ _ _ h => h) (Or.inl ⟨by rfl, ?_⟩) HS0.out ?_
      rotate_left
      · (intro w' hS; have q1 := G1.out w' hS; have q2 := G2.out w' hS; have q3 := G3.out w' hS; have q4 := G4.out w' hS; clear hS; go_simp; with_reducible rfl)
      simp only [Act.put, List.setIfInBounds_toArray, List.set_cons_zero, List.set_cons_succ]
      refine AnyK.take (oi := { dst := _, op := _, type := _, pos := _, after := _, guard := _ }) 3 ?_ rfl (by kernel_rfl) (fun _ _ _ h => h) (Or.inl ⟨by rfl, ?_⟩) HS0.out ?_
      rotate_left
      · (intro w' hS; have q1 := G1.out w' hS; have q2 := G2.out w' hS; have q3 := G3.out w' hS; have q4 := G4.out w' hS; clear hS; go_simp; with_reducible rfl)
      simp only [Act.put, List.setIfInBounds_toArray, List.set_cons_zero, List.set_cons_succ]
      refine AnyK.take (oi := { dst := _, op := _, type := _, pos := _, after := _, guard := _ }) 4 ?_ rfl (by kernel_rfl) (fun _ _ _ h => h) (Or.inl ⟨by rfl, ?_⟩) HS0.out ?_
      rotate_left
      · (intro w' hS; have q1 := G1.out w' hS; have q2 := G2.out w' hS; have q3 := G3.out w' hS; have q4 := G4.out w' hS; clear hS; go_simp; with_reducible rfl)
      simp only [Act.put, List.setIfInBounds_toArray, List.set_cons_zero, List.set_cons_succ]
      refine AnyK.take (oi := { dst := _, op := _, type := _, pos := _, after := _, guard := _ }) 5 ?_ rfl (by kernel_rfl) (fun _ _ _ h => h) (Or.inl ⟨by rfl, ?_⟩) HS0.out ?_
      rotate_left
      · (intro w' hS; have q1 := G1.out w' hS; have q2 := G2.out w' hS; have q3 := G3.out w' hS; have q4 := G4.out w' hS; clear hS; go_simp; with_reducible rfl)
      simp only [Act.put, List.setIfInBounds_toArray, List.set_cons_zero, List.set_cons_succ]
      refine AnyK.take (oi := { dst := _, op := _, type := _, pos := _, after := _, guard := _ }) 6 ?_ rfl (by kernel_rfl) (fun _ _ _ h => h) (Or.inl ⟨by rfl, ?_⟩) HS0.out ?_
      rotate_left
      · (intro w' hS; have q1 := G1.out w' hS; have q2 := G2.out w' hS; have q3 := G3.out w' hS; have q4 := G4.out w' hS; clear hS; go_simp; with_reducible rfl)
      simp only [Act.put, List.setIfInBounds_toArray, List.set_cons_zero, List.set_cons_succ]
      refine AnyK.take (oi := { dst := _, op := _, type := _, pos := _, after := _, guard := _ }) 7 ?_ rfl (by kernel_rfl) (fun _ _ _ h => h) (Or.inl ⟨by rfl, ?_⟩) HS0.out ?_
      rotate_left
      · (intro w' hS; have q1 := G1.out w' hS; have q2 := G2.out w' hS; have q3 := G3.out w' hS; have q4 := G4.out w' hS; clear hS; go_simp; with_reducible rfl)
      simp only [Act.put, List.setIfInBounds_toArray, List.set_cons_zero, List.set_cons_succ]
      refine AnyK.take (oi := { dst := _, op := _, type := _, pos := _, after := _, guard := _ }) 8 ?_ rfl (by kernel_rfl) (fun _ _ _ h => h) (Or.inl ⟨by rfl, ?_⟩) HS0.out ?_
      rotate_left
      · (intro w' hS; have q1 := G1.out w' hS; have q2 := G2.out w' hS; have q3 := G3.out w' hS; have q4 := G4.out w' hS; clear hS; go_simp; with_reducible rfl)
      simp only [Act.put, List.setIfInBounds_toArray, List.set_cons_zero, List.set_cons_succ]
      refine AnyK.take (oi := { dst := _, op := _, type := _, pos := _, after := _, guard := _ }) 9 ?_ rfl (by kernel_rfl) (fun _ _ _ h => h) (Or.inl ⟨by rfl, ?_⟩) HS0.out ?_
      rotate_left
      · (intro w' hS; have q1 := G1.out w' hS; have q2 := G2.out w' hS; have q3 := G3.out w' hS; have q4 := G4.out w' hS; clear hS; go_simp; with_reducible rfl)
      simp only [Act.put, List.setIfInBounds_toArray, List.set_cons_zero, List.set_cons_succ]
      refine AnyK.take (oi := { dst := _, op := _, type := _, pos := _, after := _, guard := _ }) 10 ?_ rfl (by kernel_rfl) (fun _ _ _ h => h) (Or.inl ⟨by rfl, ?_⟩) HS0.out ?_
      rotate_left
      · (intro w' hS; have q1 := G1.out w' hS; have q2 := G2.out w' hS; have q3 := G3.out w' hS; have q4 := G4.out w' hS; clear hS; go_simp; with_reducible rfl)
      simp only [Act.put, List.setIfInBounds_toArray, List.set_cons_zero, List.set_cons_succ]
      refine AnyK.take (oi := { dst := _, op := _, type := _, pos := _, after := _, guard := _ }) 11 ?_ rfl (by kernel_rfl) (fun _ _ _ h => h) (Or.inl ⟨by rfl, ?_⟩) HS0.out ?_
      rotate_left
      · (intro w' hS; have q1 := G1.out w' hS; have q2 := G2.out w' hS; have q3 := G3.out w' hS; have q4 := G4.out w' hS; clear hS; go_simp; with_reducible rfl)
      simp only [Act.put, List.setIfInBounds_toArray, List.set_cons_zero, List.set_cons_succ]
      refine AnyK.take (oi := { dst := _, op := _, type := _, pos := _, after := _, guard := _ }) 12 ?_ rfl (by kernel_rfl) (fun _ _ _ h => h) (Or.inl ⟨by rfl, ?_⟩) HS0.out ?_
      rotate_left
      · (intro w' hS; have q1 := G1.out w' hS; have q2 := G2.out w' hS; have q3 := G3.out w' hS; have q4 := G4.out w' hS; clear hS; go_simp; with_reducible rfl)
      simp only [Act.put, List.setIfInBounds_toArray, List.set_cons_zero, List.set_cons_succ]
      refine AnyK.take (oi := { dst := _, op := _, type := _, pos := _, after := _, guard := _ }) 13 ?_ rfl (by kernel_rfl) (fun _ _ _ h => h) (Or.inl ⟨by rfl, ?_⟩) HS0.out ?_
      rotate_left
      · (intro w' hS; have q1 := G1.out w' hS; have q2 := G2.out w' hS; have q3 := G3.out w' hS; have q4 := G4.out w' hS; clear hS; go_simp; with_reducible rfl)
      simp only [Act.put, List.setIfInBounds_toArray, List.set_cons_zero, List.set_cons_succ]
      refine AnyK.take (oi := { dst := _, op := _, type := _, pos := _, after := _, guard := _ }) 14 ?_ rfl (by kernel_rfl) (fun _ _ _ h => h) (Or.inl ⟨by rfl, ?_⟩) HS0.out ?_
      rotate_left
      · (intro w' hS; have q1 := G1.out w' hS; have q2 := G2.out w' hS; have q3 := G3.out w' hS; have q4 := G4.out w' hS; clear hS; go_simp; with_reducible rfl)
      simp only [Act.put, List.setIfInBounds_toArray, List.set_cons_zero, List.set_cons_succ]
      refine AnyK.take (oi := { dst := _, op := _, type := _, pos := _, after := _, guard := _ }) 15 ?_ rfl (by kernel_rfl) (fun _ _ _ h => h) (Or.inl ⟨by rfl, ?_⟩) HS0.out ?_
      rotate_left
      · (intro w' hS; have q1 := G1.out w' hS; have q2 := G2.out w' hS; have q3 := G3.out w' hS; have q4 := G4.out w' hS; clear hS; go_simp; with_reducible rfl)
      simp only [Act.put, List.setIfInBounds_toArray, List.set_cons_zero, List.set_cons_succ]
      refine AnyK.take (oi := { dst := _, op := _, type := _, pos := _, after := _, guard := _ }) 16 ?_ rfl (by kernel_rfl) (fun _ _ _ h => h) (Or.inl ⟨by rfl, ?_⟩) HS0.out ?_
      rotate_left
      · (intro w' hS; have q1 := G1.out w' hS; have q2 := G2.out w' hS; have q3 := G3.out w' hS; have q4 := G4.out w' hS; clear hS; go_simp; with_reducible rfl)
      simp only [Act.put, List.setIfInBounds_toArray, List.set_cons_zero, List.set_cons_succ]
      refine AnyK.take (oi := { dst := _, op := _, type := _, pos := _, after := _, guard := _ }) 17 ?_ rfl (by kernel_rfl) (fun _ _ _ h => h) (Or.inl ⟨by rfl, ?_⟩) HS0.out ?_
      rotate_left
      · (intro w' hS; have q1 := G1.out w' hS; have q2 := G2.out w' hS; have q3 := G3.out w' hS; have q4 := G4.out w' hS; clear hS; go_simp; with_reducible rfl)
      simp only [Act.put, List.setIfInBounds_toArray, List.set_cons_zero, List.set_cons_succ]
      refine AnyK.take (oi := { dst := _, op := _, type := _, pos := _, after := _, guard := _ }) 18 ?_ rfl (by kernel_rfl) (fun _ _ _ h => h) (Or.inl ⟨by rfl, ?_⟩) HS0.out ?_
      rotate_left
      · (intro w' hS; have q1 := G1.out w' hS; have q2 := G2.out w' hS; have q3 := G3.out w' hS; have q4 := G4.out w' hS; clear hS; go_simp; with_reducible rfl)
      simp only [Act.put, List.setIfInBounds_toArray, List.set_cons_zero, List.set_cons_succ]
      refine AnyK.take (oi := { dst := _, op := _, type := _, pos := _, after := _, guard := _ }) 19 ?_ rfl (by kernel_rfl) (fun _ _ _ h => h) (Or.inl ⟨by rfl, ?_⟩) HS0.out ?_
      rotate_left
      · (intro w' hS; have q1 := G1.out w' hS; have q2 := G2.out w' hS; have q3 := G3.out w' hS; have q4 := G4.out w' hS; clear hS; go_simp; with_reducible rfl)
      simp only [Act.put, List.setIfInBounds_toArray, List.set_cons_zero, List.set_cons_succ]
      refine AnyK.take (oi := { dst := _, op := _, type := _, pos := _, after := _, guard := _ }) 20 ?_ rfl (by kernel_rfl) (fun _ _ _ h => h) (Or.inl ⟨by rfl, ?_⟩) HS0.out ?_
      rotate_left
      · (intro w' hS; have q1 := G1.out w' hS; have q2 := G2.out w' hS; have q3 := G3.out w' hS; have q4 := G4.out w' hS; clear hS; go_simp; with_reducible rfl)
      simp only [Act.put, List.setIfInBounds_toArray, List.set_cons_zero, List.set_cons_succ]
      refine AnyK.take (oi := { dst := _, op := _, type := _, pos := _, after := _, guard := _ }) 21 ?_ rfl (by kernel_rfl) (fun _ _ _ h => h) (Or.inl ⟨by rfl, ?_⟩) HS0.out ?_
      rotate_left
      · (intro w' hS; have q1 := G1.out w' hS; have q2 := G2.out w' hS; have q3 := G3.out w' hS; have q4 := G4.out w' hS; clear hS; go_simp; with_reducible rfl)
      simp only [Act.put, List.setIfInBounds_toArray, List.set_cons_zero, List.set_cons_succ]
      refine AnyK.take (oi := { dst := _, op := _, type := _, pos := _, after := _, guard := _ }) 22 ?_ rfl (by kernel_rfl) (fun _ _ _ h => h) (Or.inl ⟨by rfl, ?_⟩) HS0.out ?_
      rotate_left
      · (intro w' hS; have q1 := G1.out w' hS; have q2 := G2.out w' hS; have q3 := G3.out w' hS; have q4 := G4.out w' hS; clear hS; go_simp; with_reducible rfl)
      simp only [Act.put, List.setIfInBounds_toArray, List.set_cons_zero, List.set_cons_succ]
      refine AnyK.take (oi := { dst := _, op := _, type := _, pos := _, after := _, guard := _ }) 23 ?_ rfl (by kernel_rfl) (fun _ _ _ h => h) (Or.inl ⟨by rfl, ?_⟩) HS0.out ?_
      rotate_left
      · (intro w' hS; have q1 := G1.out w' hS; have q2 := G2.out w' hS; have q3 := G3.out w' hS; have q4 := G4.out w' hS; clear hS; go_simp; with_reducible rfl)
      simp only [Act.put, List.setIfInBounds_toArray, List.set_cons_zero, List.set_cons_succ]
      refine AnyK.take (oi := { dst := _, op := _, type := _, pos := _, after := _, guard := _ }) 24 ?_ rfl (by kernel_rfl) (fun _ _ _ h => h) (Or.inl ⟨by rfl, ?_⟩) HS0.out ?_
      rotate_left
      · (intro w' hS; have q1 := G1.out w' hS; have q2 := G2.out w' hS; have q3 := G3.out w' hS; have q4 := G4.out w' hS; clear hS; go_simp; with_reducible rfl)
      simp only [Act.put, List.setIfInBounds_toArray, List.set_cons_zero, List.set_cons_succ]
      refine AnyK.take (oi := { dst := _, op := _, type := _, pos := _, after := _, guard := _ }) 25 ?_ rfl (by kernel_rfl) (fun _ _ _ h => h) (Or.inl ⟨by rfl, ?_⟩) HS0.out ?_
      rotate_left
      · (intro w' hS; have q1 := G1.out w' hS; have q2 := G2.out w' hS; have q3 := G3.out w' hS; have q4 := G4.out w' hS; clear hS; go_simp; with_reducible rfl)
      simp only [Act.put, List.setIfInBounds_toArray, List.set_cons_zero, List.set_cons_succ]
      refine AnyK.take (oi := { dst := _, op := _, type := _, pos := _, after := _, guard := _ }) 26 ?_ rfl (by kernel_rfl) (fun _ _ _ h => h) (Or.inl ⟨by rfl, ?_⟩) HS0.out ?_
      rotate_left
      · (intro w' hS; have q1 := G1.out w' hS; have q2 := G2.out w' hS; have q3 := G3.out w' hS; have q4 := G4.out w' hS; clear hS; go_simp; with_reducible rfl)
      simp only [Act.put, List.setIfInBounds_toArray, List.set_cons_zero, List.set_cons_succ]
      refine AnyK.take (oi := { dst := _, op := _, type := _, pos := _, after := _, guard := _ }) 27 ?_ rfl (by kernel_rfl) (fun _ _ _ h => h) (Or.inl ⟨by rfl, ?_⟩) HS0.out ?_
      rotate_left
      · (intro w' hS; have q1 := G1.out w' hS; have q2 := G2.out w' hS; have q3 := G3.out w' hS; have q4 := G4.out w' hS; clear hS; go_simp; with_reducible rfl)
      simp only [Act.put, List.setIfInBounds_toArray, List.set_cons_zero, List.set_cons_succ]
      refine AnyK.take (oi := { dst := _, op := _, type := _, pos := _, after := _, guard := _ }) 28 ?_ rfl (by kernel_rfl) (fun _ _ _ h => h) (Or.inl ⟨by rfl, ?_⟩) HS0.out ?_
      rotate_left
      · (intro w' hS; have q1 := G1.out w' hS; have q2 := G2.out w' hS; have q3 := G3.out w' hS; have q4 := G4.out w' hS; clear hS; go_simp; with_reducible rfl)
      simp only [Act.put, List.setIfInBounds_toArray, List.set_cons_zero, List.set_cons_succ]
      refine AnyK.take (oi := { dst := _, op := _, type := _, pos := _, after := _, guard := _ }) 29 ?_ rfl (by kernel_rfl) (fun _ _ _ h => h) (Or.inl ⟨by rfl, ?_⟩) HS0.out ?_
      rotate_left
      · (intro w' hS; have q1 := G1.out w' hS; have q2 := G2.out w' hS; have q3 := G3.out w' hS; have q4 := G4.out w' hS; clear hS; go_simp; with_reducible rfl)
      simp only [Act.put, List.setIfInBounds_toArray, List.set_cons_zero, List.set_cons_succ]
      refine AnyK.take (oi := { dst := _, op := _, type := _, pos := _, after := _, guard := _ }) 30 ?_ rfl (by kernel_rfl) (fun _ _ _ h => h) (Or.inl ⟨by rfl, ?_⟩) HS0.out ?_
      rotate_left
      · (intro w' hS; have q1 := G1.out w' hS; have q2 := G2.out w' hS; have q3 := G3.out w' hS; have q4 := G4.out w' hS; clear hS; go_simp; with_reducible rfl)
      simp only [Act.put, List.setIfInBounds_toArray, List.set_cons_zero, List.set_cons_succ]
      refine AnyK.take (oi := { dst := _, op := _, type := _, pos := _, after := _, guard := _ }) 31 ?_ rfl (by kernel_rfl) (fun _ _ _ h => h) (Or.inl ⟨by rfl, ?_⟩) HS0.out ?_
      rotate_left
      · (intro w' hS; have q1 := G1.out w' hS; have q2 := G2.out w' hS; have q3 := G3.out w' hS; have q4 := G4.out w' hS; clear hS; go_simp; with_reducible rfl)
      simp only [Act.put, List.setIfInBounds_toArray, List.set_cons_zero, List.set_cons_succ]
      refine AnyK.take (oi := { dst := _, op := _, type := _, pos := _, after := _, guard := _ }) 32 ?_ rfl (by kernel_rfl) (fun _ _ _ h => h) (Or.inl ⟨by rfl, ?_⟩) HS0.out ?_
      rotate_left
      · (intro w' hS; have q1 := G1.out w' hS; have q2 := G2.out w' hS; have q3 := G3.out w' hS; have q4 := G4.out w' hS; clear hS; go_simp; with_reducible rfl)
      simp only [Act.put, List.setIfInBounds_toArray, List.set_cons_zero, List.set_cons_succ]
      refine AnyK.take (oi := { dst := _, op := _, type := _, pos := _, after := _, guard := _ }) 33 ?_ rfl (by kernel_rfl) (fun _ _ _ h => h) (Or.inl ⟨by rfl, ?_⟩) HS0.out ?_
      rotate_left
      · (intro w' hS; have q1 := G1.out w' hS; have q2 := G2.out w' hS; have q3 := G3.out w' hS; have q4 := G4.out w' hS; clear hS; go_simp; with_reducible rfl)
      simp only [Act.put, List.setIfInBounds_toArray, List.set_cons_zero, List.set_cons_succ]
      refine AnyK.take (oi := { dst := _, op := _, type := _, pos := _, after := _, guard := _ }) 34 ?_ rfl (by kernel_rfl) (fun _ _ _ h => h) (Or.inl ⟨by rfl, ?_⟩) HS0.out ?_
      rotate_left
      · (intro w' hS; have q1 := G1.out w' hS; have q2 := G2.out w' hS; have q3 := G3.out w' hS; have q4 := G4.out w' hS; clear hS; go_simp; with_reducible rfl)
      simp only [Act.put, List.setIfInBounds_toArray, List.set_cons_zero, List.set_cons_succ]
      refine AnyK.take (oi := { dst := _, op := _, type := _, pos := _, after := _, guard := _ }) 35 ?_ rfl (by kernel_rfl) (fun _ _ _ h => h) (Or.inl ⟨by rfl, ?_⟩) HS0.out ?_
      rotate_left
      · (intro w' hS; have q1 := G1.out w' hS; have q2 := G2.out w' hS; have q3 := G3.out w' hS; have q4 := G4.out w' hS; clear hS; go_simp; with_reducible rfl)
      simp only [Act.put, List.setIfInBounds_toArray, List.set_cons_zero, List.set_cons_succ]
      refine AnyK.take (oi := { dst := _, op := _, type := _, pos := _, after := _, guard := _ }) 36 ?_ rfl (by kernel_rfl) (fun _ _ _ h => h) (Or.inl ⟨by rfl, ?_⟩) HS0.out ?_
      rotate_left
      · (intro w' hS; have q1 := G1.out w' hS; have q2 := G2.out w' hS; have q3 := G3.out w' hS; have q4 := G4.out w' hS; clear hS; go_simp; with_reducible rfl)
      simp only [Act.put, List.setIfInBounds_toArray, List.set_cons_zero, List.set_cons_succ]
      have HC := Lib.hid (HCALL.out _ HS0.out)
      refine AnyK.one 37 (by kernel_rfl) rfl (fun KK hK => ?_)
      go_simp
      refine HC.out.mono ?_
      rintro e U1 ⟨rfl, hb⟩
      have HS1 := Lib.hid (HS0.out.trans (hb.mono HS0.out.size))
      clear hb
      refine hK _ _ HS1.out ?_
      clear hK
      refine AnyK.take (oi := { dst := _, op := _, type := _, pos := _, after := _, guard := _ }) 38 ?_ rfl (by kernel_rfl) (fun _ _ _ h => h) (Or.inl ⟨by rfl, ?_⟩) HS1.out ?_
      rotate_left
      · (intro w' hS; have q1 := G1.out w' hS; have q2 := G2.out w' hS; have q3 := G3.out w' hS; have q4 := G4.out w' hS; clear hS; go_simp; with_reducible rfl)
      simp only [Act.put, List.setIfInBounds_toArray, List.set_cons_zero, List.set_cons_succ]
      refine AnyK.late 39 (by kernel_rfl) (by kernel_rfl) rfl (fun KK hK => ?_)
      go_simp
      refine hK _ _ ?_
      clear hK
      refine AnyK.done (by kernel_rfl) ?_ _
      have HX9 := Lib.hid ((HS1.out.block _ (heap_lt HX.out)).trans HX.out)
      have HB9 := Lib.hid (HB.out.trans (HS1.out.mono HB.out.size))
      have HQ9 := Lib.hid (HQ.out.trans (HS1.out.mono HQ.out.size))
      go_wp2_with fail
      exact ⟨⟨k + 1, by omega, by go_num, HX9.out, HB9.out, HQ9.out⟩, by simp [intOf]; omega⟩
    · obtain rfl : k = cl := by omega
      have e4 : wr.cell? ⟨W.heap.size, 0, none⟩ = some (.slice (some ⟨bb, oo, none⟩) l c) := by rw [Lib.cell_of_heap hX]; rfl
      have hfc := tfaces_any wr W.heap.size (some ⟨bb, oo, none⟩) l c ds (row_lim HR.out hB) hB.size hl16 HF8.out (dn : Int) (wf_small _ (by omega) (by omega))
      have HX := Lib.hid hX
      have HB := Lib.hid hB
      clear hX hB hq HX7 HB7 HO7
      go_wp2_with (go_at_call 17; refine hfc.mono ?_)
      rintro e V8 ⟨v8, rfl, hown8, hb8⟩
      clear hfc e4
      have HX8 := Lib.hid ((hb8.block _ (heap_lt HX.out)).trans HX.out)
      have HB8 := Lib.hid (HB.out.trans (hb8.mono HB.out.size))
      obtain ⟨fa, fl, fc, rfl⟩ : ∃ fa fl fc, v8 = .slice fa fl fc := by
        rcases ownsRow_forms hown8 with ⟨h, _⟩ | ⟨g, cap, h⟩
        · exact ⟨_, _, _, h⟩
        · exact ⟨_, _, _, h⟩
      have hfl : fl = (facesU ds (dn : Int)).length := by have := lenV_own hown8; exact this
      have hflm : fl ≤ 9223372036854775807 := by
        have := (ints_row (S := fun _ => True) hown8 (fun _ _ => trivial)).1.le
        unfold maxLen at this; omega
      rw [← HDN.out] at hown8 hfl
      have HO8 := Lib.hid hown8
      clear hown8 hb8 HX HB
      go_wp2_with fail
      go_loopw [18] (fun ix wr => ∃ k : Nat, k ≤ fl ∧ ix = .int .i64 k ∧ wr.heap[W.heap.size]? = some (.cells #[.slice (some ⟨bb, oo, none⟩) l c] 24 (0, 0)) ∧ Below W.heap.size W wr ∧ Below V8.heap.size V8 wr) (fun ix _ => fl - (intOf ix).toNat)
      case atStart => exact ⟨0, Nat.zero_le _, rfl, HX8.out, HB8.out, Below.refl _ _⟩
      case round =>
        obtain ⟨k, hk, rfl, hX, hB, hq⟩ := hrel
        by_cases hlt : k < fl
        · skip
          have i0 : (k : Int) < (fl : Int) := by omega
          have i1 : (0 : Int) ≤ (k : Int) := by omega
          have hrow := (ints_row (S := fun _ => True) (own_keep1 HO8.out (w' := wr) (fun k hk => hq.block k (own_type HO8.out hk).2.1)) (fun _ _ => trivial)).1
          obtain ⟨cb, co, c0, vs0, hce, _, hx0, hca, hI0⟩ := hrow.item hlt
          subst hce
          obtain rfl := int_is.1 hI0
          obtain ⟨n0, y0, rfl, hy0, hky⟩ := has_spec.1 ((fun h => (facesOf_mem (faces_mem.1 h).choose_spec.2).1) (List.mem_of_getElem? hx0))
          have hnl : n0 < l := by have := (List.getElem?_eq_some_iff.1 hy0).1; omega
          have his : isU ds xa.name y0.name = true := is_faces (List.mem_of_getElem? hx0) (by simpa using hy0)
          have hny : y0.name.size ≤ 1000 := by have := (HF8.out _ _ hy0).2; omega
          obtain ⟨by_, oy_, y1, vsy, hey, _, hy1, hcy, hIy⟩ := (row_lim HR.out hB).item hnl
          cases hey
          obtain rfl := Option.some.inj (hy0.symm.trans hy1)
          obtain ⟨a3, l3, c3, a6, l6, c6, a7, l7, c7, d8, a8, l8, c8, rfl, -⟩ := decl_is.1 hIy
          have e1 : wr.cell? ⟨cb, co + k, none⟩ = some (.int .i64 (n0 : Int)) := by have := hca 0 _ rfl; rw [show co + k * shInt.n + 0 = co + k by show co + k * 1 + 0 = _; omega] at this; exact this
          have e2 : wr.cell? ⟨bb, oo + n0 * 11, none⟩ = some (.int .i64 1) := by rw [← hky]; exact hcy 0 _ rfl
          have e3 : wr.cell? ⟨bb, oo + n0 * 11 + 1, none⟩ = some (.string y0.name) := hcy 1 _ rfl
          have e4 : wr.cell? ⟨W.heap.size, 0, none⟩ = some (.slice (some ⟨bb, oo, none⟩) l c) := by rw [Lib.cell_of_heap hX]; rfl
          have b1 := World.block_lt_of_cell? _ _ e1
          have b2 := World.block_lt_of_cell? _ _ e2
          have b3 := World.block_lt_of_cell? _ _ e3
          have b4 := World.block_lt_of_cell? _ _ e4
          have g1 : ∀ w', Below wr.heap.size wr w' → w'.cell? ⟨cb, co + k, none⟩ = some (.int .i64 (n0 : Int)) := fun w' h => (h.cell b1).trans e1
          have g2 : ∀ w', Below wr.heap.size wr w' → w'.cell? ⟨bb, oo + n0 * 11, none⟩ = some (.int .i64 1) := fun w' h => (h.cell b2).trans e2
          have g3 : ∀ w', Below wr.heap.size wr w' → w'.cell? ⟨bb, oo + n0 * 11 + 1, none⟩ = some (.string y0.name) := fun w' h => (h.cell b3).trans e3
          have g4 : ∀ w', Below wr.heap.size wr w' → w'.cell? ⟨W.heap.size, 0, none⟩ = some (.slice (some ⟨bb, oo, none⟩) l c) := fun w' h => (h.cell b4).trans e4
          have G1 := Lib.hid g1
          have G2 := Lib.hid g2
          have G3 := Lib.hid g3
          have G4 := Lib.hid g4
          have HX := Lib.hid hX
          have HB := Lib.hid hB
          have HQ := Lib.hid hq
          have hcall := fun (V : World) (hb : Below wr.heap.size wr V) => HTIS.out V (HB.out.trans (hb.mono HB.out.size)) xa.name y0.name hna hny
          rw [his] at hcall
          have HCALL := Lib.hid hcall
          have j0 : (0 : Int) ≤ (n0 : Int) := by omega
          have j1 : (n0 : Int) < (l : Int) := by omega
          have j2 : decide ((n0 : Int) < 0) = false := decide_eq_false (by omega)
          have j3 : decide ((l : Int) ≤ (n0 : Int)) = false := decide_eq_false (by omega)
          have j4 : decide (l ≤ n0) = false := decide_eq_false (by omega)
          have HS0 := Lib.hid (show Below wr.heap.size wr wr.drew from ⟨rfl, rfl, rfl, Nat.le_refl _, fun _ _ => rfl⟩)
          clear hrow hx0 hca hI0 hy0 hky his hy1 hcy hIy g1 g2 g3 g4 hX hB hq hcall b1 b2 b3 b4
          go_upto_region 21 with fail
          clear e1 e2 e3 e4
          refine AnyK.start 39 (fun w' => Below wr.heap.size wr w') rfl HS0.out (fun _ => ?_)
          refine AnyK.take (oi := { dst := _, op := _, type := _, pos := _, after := _, guard := _ }) 0 ?_ rfl (by kernel_rfl) (fun _ _ _ h => h) (Or.inl ⟨by rfl, ?_⟩) HS0.out ?_
          rotate_left
          · (intro w' hS; have q1 := G1.out w' hS; have q2 := G2.out w' hS; have q3 := G3.out w' hS; have q4 := G4.out w' hS; clear hS; go_simp; with_reducible rfl)
          simp only [Act.put, List.setIfInBounds_toArray, List.set_cons_zero, List.set_cons_succ]
          refine AnyK.take (oi := { dst := _, op := _, type := _, pos := _, after := _, guard := _ }) 1 ?_ rfl (by kernel_rfl) (fun _ _ _ h => h) (Or.inl ⟨by rfl, ?_⟩) HS0.out ?_
          rotate_left
          · (intro w' hS; have q1 := G1.out w' hS; have q2 := G2.out w' hS; have q3 := G3.out w' hS; have q4 := G4.out w' hS; clear hS; go_simp; with_reducible rfl)
          simp only [Act.put, List.setIfInBounds_toArray, List.set_cons_zero, List.set_cons_succ]
          refine AnyK.take (oi := { dst := _, op := _, type := _, pos := _, after := _, guard := _ }) 2 ?_ rfl (by kernel_rfl) (fun _ _ _ h => h) (Or.inl ⟨by rfl, ?_⟩) HS0.out ?_
          rotate_left
          · (intro w' hS; have q1 := G1.out w' hS; have q2 := G2.out w' hS; have q3 := G3.out w' hS; have q4 := G4.out w' hS; clear hS; go_simp; with_reducible rfl)
          simp only [Act.put, List.setIfInBounds_toArray, List.set_cons_zero, List.set_cons_succ]
          refine AnyK.take (oi := { dst := _, op := _, type := _, pos := _, after := _, guard := _ }) 3 ?_ rfl (by kernel_rfl) (fun _ _ _ h => h) (Or.inl ⟨by rfl, ?_⟩) HS0.out ?_
          rotate_left
          · (intro w' hS; have q1 := G1.out w' hS; have q2 := G2.out w' hS; have q3 := G3.out w' hS; have q4 := G4.out w' hS; clear hS; go_simp; with_reducible rfl)
          simp only [Act.put, List.setIfInBounds_toArray, List.set_cons_zero, List.set_cons_succ]
          refine AnyK.take (oi := { dst := _, op := _, type := _, pos := _, after := _, guard := _ }) 4 ?_ rfl (by kernel_rfl) (fun _ _ _ h => h) (Or.inl ⟨by rfl, ?_⟩) HS0.out ?_
          rotate_left
          · (intro w' hS; have q1 := G1.out w' hS; have q2 := G2.out w' hS; have q3 := G3.out w' hS; have q4 := G4.out w' hS; clear hS; go_simp; with_reducible rfl)
          simp only [Act.put, List.setIfInBounds_toArray, List.set_cons_zero, List.set_cons_succ]
          refine AnyK.take (oi := { dst := _, op := _, type := _, pos := _, after := _, guard := _ }) 5 ?_ rfl (by kernel_rfl) (fun _ _ _ h => h) (Or.inl ⟨by rfl, ?_⟩) HS0.out ?_
          rotate_left
          · (intro w' hS; have q1 := G1.out w' hS; have q2 := G2.out w' hS; have q3 := G3.out w' hS; have q4 := G4.out w' hS; clear hS; go_simp; with_reducible rfl)
          simp only [Act.put, List.setIfInBounds_toArray, List.set_cons_zero, List.set_cons_succ]
          refine AnyK.take (oi := { dst := _, op := _, type := _, pos := _, after := _, guard := _ }) 6 ?_ rfl (by kernel_rfl) (fun _ _ _ h => h) (Or.inl ⟨by rfl, ?_⟩) HS0.out ?_
          rotate_left
          · (intro w' hS; have q1 := G1.out w' hS; have q2 := G2.out w' hS; have q3 := G3.out w' hS; have q4 := G4.out w' hS; clear hS; go_simp; with_reducible rfl)
          simp only [Act.put, List.setIfInBounds_toArray, List.set_cons_zero, List.set_cons_succ]
          refine AnyK.take (oi := { dst := _, op := _, type := _, pos := _, after := _, guard := _ }) 7 ?_ rfl (by kernel_rfl) (fun _ _ _ h => h) (Or.inl ⟨by rfl, ?_⟩) HS0.out ?_
          rotate_left
          · (intro w' hS; have q1 := G1.out w' hS; have q2 := G2.out w' hS; have q3 := G3.out w' hS; have q4 := G4.out w' hS; clear hS; go_simp; with_reducible rfl)
          simp only [Act.put, List.setIfInBounds_toArray, List.set_cons_zero, List.set_cons_succ]
          refine AnyK.take (oi := { dst := _, op := _, type := _, pos := _, after := _, guard := _ }) 8 ?_ rfl (by kernel_rfl) (fun _ _ _ h => h) (Or.inl ⟨by rfl, ?_⟩) HS0.out ?_
          rotate_left
          · (intro w' hS; have q1 := G1.out w' hS; have q2 := G2.out w' hS; have q3 := G3.out w' hS; have q4 := G4.out w' hS; clear hS; go_simp; with_reducible rfl)
          simp only [Act.put, List.setIfInBounds_toArray, List.set_cons_zero, List.set_cons_succ]
          refine AnyK.take (oi := { dst := _, op := _, type := _, pos := _, after := _, guard := _ }) 9 ?_ rfl (by kernel_rfl) (fun _ _ _ h => h) (Or.inl ⟨by rfl, ?_⟩) HS0.out ?_
          rotate_left
          · (intro w' hS; have q1 := G1.out w' hS; have q2 := G2.out w' hS; have q3 := G3.out w' hS; have q4 := G4.out w' hS; clear hS; go_simp; with_reducible rfl)
          simp only [Act.put, List.setIfInBounds_toArray, List.set_cons_zero, List.set_cons_succ]
          refine AnyK.take (oi := { dst := _, op := _, type := _, pos := _, after := _, guard := _ }) 10 ?_ rfl (by kernel_rfl) (fun _ _ _ h => h) (Or.inl ⟨by rfl, ?_⟩) HS0.out ?_
          rotate_left
          · (intro w' hS; have q1 := G1.out w' hS; have q2 := G2.out w' hS; have q3 := G3.out w' hS; have q4 := G4.out w' hS; clear hS; go_simp; with_reducible rfl)
          simp only [Act.put, List.setIfInBounds_toArray, List.set_cons_zero, List.set_cons_succ]
          refine AnyK.take (oi := { dst := _, op := _, type := _, pos := _, after := _, guard := _ }) 11 ?_ rfl (by kernel_rfl) (fun _ _ _ h => h) (Or.inl ⟨by rfl, ?_⟩) HS0.out ?_
          rotate_left
          · (intro w' hS; have q1 := G1.out w' hS; have q2 := G2.out w' hS; have q3 := G3.out w' hS; have q4 := G4.out w' hS; clear hS; go_simp; with_reducible rfl)
          simp only [Act.put, List.setIfInBounds_toArray, List.set_cons_zero, List.set_cons_succ]
          refine AnyK.take (oi := { dst := _, op := _, type := _, pos := _, after := _, guard := _ }) 12 ?_ rfl (by kernel_rfl) (fun _ _ _ h => h) (Or.inl ⟨by rfl, ?_⟩) HS0.out ?_
          rotate_left
          · (intro w' hS; have q1 := G1.out w' hS; have q2 := G2.out w' hS; have q3 := G3.out w' hS; have q4 := G4.out w' hS; clear hS; go_simp; with_reducible rfl)
          simp only [Act.put, List.setIfInBounds_toArray, List.set_cons_zero, List.set_cons_succ]
          refine AnyK.take (oi := { dst := _, op := _, type := _, pos := _, after := _, guard := _ }) 13 ?_ rfl (by kernel_rfl) (fun _ _ _ h => h) (Or.inl ⟨by rfl, ?_⟩) HS0.out ?_
          rotate_left
          · (intro w' hS; have q1 := G1.out w' hS; have q2 := G2.out w' hS; have q3 := G3.out w' hS; have q4 := G4.out w' hS; clear hS; go_simp; with_reducible rfl)
          simp only [Act.put, List.setIfInBounds_toArray, List.set_cons_zero, List.set_cons_succ]
          refine AnyK.take (oi := { dst := _, op := _, type := _, pos := _, after := _, guard := _ }) 14 ?_ rfl (by kernel_rfl) (fun _ _ _ h => h) (Or.inl ⟨by rfl, ?_⟩) HS0.out ?_
          rotate_left
          · (intro w' hS; have q1 := G1.out w' hS; have q2 := G2.out w' hS; have q3 := G3.out w' hS; have q4 := G4.out w' hS; clear hS; go_simp; with_reducible rfl)
          simp only [Act.put, List.setIfInBounds_toArray, List.set_cons_zero, List.set_cons_succ]
          refine AnyK.take (oi := { dst := _, op := _, type := _, pos := _, after := _, guard := _ }) 15 ?_ rfl (by kernel_rfl) (fun _ _ _ h => h) (Or.inl ⟨by rfl, ?_⟩) HS0.out ?_
          rotate_left
          · (intro w' hS; have q1 := G1.out w' hS; have q2 := G2.out w' hS; have q3 := G3.out w' hS; have q4 := G4.out w' hS; clear hS; go_simp; with_reducible rfl)
          simp only [Act.put, List.setIfInBounds_toArray, List.set_cons_zero, List.set_cons_succ]
          refine AnyK.take (oi := { dst := _, op := _, type := _, pos := _, after := _, guard := _ }) 16 ?_ rfl (by kernel_rfl) (fun _ _ _ h => h) (Or.inl ⟨by rfl, ?_⟩) HS0.out ?_
          rotate_left
          · (intro w' hS; have q1 := G1.out w' hS; have q2 := G2.out w' hS; have q3 := G3.out w' hS; have q4 := G4.out w' hS; clear hS; go_simp; with_reducible rfl)
          simp only [Act.put, List.setIfInBounds_toArray, List.set_cons_zero, List.set_cons_succ]
          refine AnyK.take (oi := { dst := _, op := _, type := _, pos := _, after := _, guard := _ }) 17 ?_ rfl (by kernel_rfl) (fun _ _ _ h => h) (Or.inl ⟨by rfl, ?_⟩) HS0.out ?_
          rotate_left
          · (intro w' hS; have q1 := G1.out w' hS; have q2 := G2.out w' hS; have q3 := G3.out w' hS; have q4 := G4.out w' hS; clear hS; go_simp; with_reducible rfl)
          simp only [Act.put, List.setIfInBounds_toArray, List.set_cons_zero, List.set_cons_succ]
          refine AnyK.take (oi := { dst := _, op := _, type := _, pos := _, after := _, guard := _ }) 18 ?_ rfl (by kernel_rfl) (fun _ _ _ h => h) (Or.inl ⟨by rfl, ?_⟩) HS0.out ?_
          rotate_left
          · (intro w' hS; have q1 := G1.out w' hS; have q2 := G2.out w' hS; have q3 := G3.out w' hS; have q4 := G4.out w' hS; clear hS; go_simp; with_reducible rfl)
          simp only [Act.put, List.setIfInBounds_toArray, List.set_cons_zero, List.set_cons_succ]
          refine AnyK.take (oi := { dst := _, op := _, type := _, pos := _, after := _, guard := _ }) 19 ?_ rfl (by kernel_rfl) (fun _ _ _ h => h) (Or.inl ⟨by rfl, ?_⟩) HS0.out ?_
          rotate_left
          · (intro w' hS; have q1 := G1.out w' hS; have q2 := G2.out w' hS; have q3 := G3.out w' hS; have q4 := G4.out w' hS; clear hS; go_simp; with_reducible rfl)
          simp only [Act.put, List.setIfInBounds_toArray, List.set_cons_zero, List.set_cons_succ]
          refine AnyK.take (oi := { dst := _, op := _, type := _, pos := _, after := _, guard := _ }) 20 ?_ rfl (by kernel_rfl) (fun _ _ _ h => h) (Or.inl ⟨by rfl, ?_⟩) HS0.out ?_
          rotate_left
          · (intro w' hS; have q1 := G1.out w' hS; have q2 := G2.out w' hS; have q3 := G3.out w' hS; have q4 := G4.out w' hS; clear hS; go_simp; with_reducible rfl)
          simp only [Act.put, List.setIfInBounds_toArray, List.set_cons_zero, List.set_cons_succ]
          refine AnyK.take (oi := { dst := _, op := _, type := _, pos := _, after := _, guard := _ }) 21 ?_ rfl (by kernel_rfl) (fun _ _ _ h => h) (Or.inl ⟨by rfl, ?_⟩) HS0.out ?_
          rotate_left
          · (intro w' hS; have q1 := G1.out w' hS; have q2 := G2.out w' hS; have q3 := G3.out w' hS; have q4 := G4.out w' hS; clear hS; go_simp; with_reducible rfl)
          simp only [Act.put, List.setIfInBounds_toArray, List.set_cons_zero, List.set_cons_succ]
          refine AnyK.take (oi := { dst := _, op := _, type := _, pos := _, after := _, guard := _ }) 22 ?_ rfl (by kernel_rfl) (fun _ _ _ h => h) (Or.inl ⟨by rfl, ?_⟩) HS0.out ?_
          rotate_left
          · (intro w' hS; have q1 := G1.out w' hS; have q2 := G2.out w' hS; have q3 := G3.out w' hS; have q4 := G4.out w' hS; clear hS; go_simp; with_reducible rfl)
          simp only [Act.put, List.setIfInBounds_toArray, List.set_cons_zero, List.set_cons_succ]
          refine AnyK.take (oi := { dst := _, op := _, type := _, pos := _, after := _, guard := _ }) 23 ?_ rfl (by kernel_rfl) (fun _ _ _ h => h) (Or.inl ⟨by rfl, ?_⟩) HS0.out ?_
          rotate_left
          · (intro w' hS; have q1 := G1.out w' hS; have q2 := G2.out w' hS; have q3 := G3.out w' hS; have q4 := G4.out w' hS; clear hS; go_simp; with_reducible rfl)
          simp only [Act.put, List.setIfInBounds_toArray, List.set_cons_zero, List.set_cons_succ]
          refine AnyK.take (oi := { dst := _, op := _, type := _, pos := _, after := _, guard := _ }) 24 ?_ rfl (by kernel_rfl) (fun _ _ _ h => h) (Or.inl ⟨by rfl, ?_⟩) HS0.out ?_
          rotate_left
          · (intro w' hS; have q1 := G1.out w' hS; have q2 := G2.out w' hS; have q3 := G3.out w' hS; have q4 := G4.out w' hS; clear hS; go_simp; with_reducible rfl)
          simp only [Act.put, List.setIfInBounds_toArray, List.set_cons_zero, List.set_cons_succ]
          refine AnyK.take (oi := { dst := _, op := _, type := _, pos := _, after := _, guard := _ }) 25 ?_ rfl (by kernel_rfl) (fun _ _ _ h => h) (Or.inl ⟨by rfl, ?_⟩) HS0.out ?_
          rotate_left
          · (intro w' hS; have q1 := G1.out w' hS; have q2 := G2.out w' hS; have q3 := G3.out w' hS; have q4 := G4.out w' hS; clear hS; go_simp; with_reducible rfl)
          simp only [Act.put, List.setIfInBounds_toArray, List.set_cons_zero, List.set_cons_succ]
          refine AnyK.take (oi := { dst := _, op := _, type := _, pos := _, after := _, guard := _ }) 26 ?_ rfl (by kernel_rfl) (fun _ _ _ h => h) (Or.inl ⟨by rfl, ?_⟩) HS0.out ?_
          rotate_left
          · (intro w' hS; have q1 := G1.out w' hS; have q2 := G2.out w' hS; have q3 := G3.out w' hS; have q4 := G4.out w' hS; clear hS; go_simp; with_reducible rfl)
          simp only [Act.put, List.setIfInBounds_toArray, List.set_cons_zero, List.set_cons_succ]
          refine AnyK.take (oi := { dst := _, op := _, type := _, pos := _, after := _, guard := _ }) 27 ?_ rfl (by kernel_rfl) (fun _ _ _ h => h) (Or.inl ⟨by rfl, ?_⟩) HS0.out ?_
          rotate_left
          · (intro w' hS; have q1 := G1.out w' hS; have q2 := G2.out w' hS; have q3 := G3.out w' hS; have q4 := G4.out w' hS; clear hS; go_simp; with_reducible rfl)
          simp only [Act.put, List.setIfInBounds_toArray, List.set_cons_zero, List.set_cons_succ]
          refine AnyK.take (oi := { dst := _, op := _, type := _, pos := _, after := _, guard := _ }) 28 ?_ rfl (by kernel_rfl) (fun _ _ _ h => h) (Or.inl ⟨by rfl, ?_⟩) HS0.out ?_
          rotate_left
          · (intro w' hS; have q1 := G1.out w' hS; have q2 := G2.out w' hS; have q3 := G3.out w' hS; have q4 := G4.out w' hS; clear hS; go_simp; with_reducible rfl)
          simp only [Act.put, List.setIfInBounds_toArray, List.set_cons_zero, List.set_cons_succ]
          refine AnyK.take (oi := { dst := _, op := _, type := _, pos := _, after := _, guard := _ }) 29 ?_ rfl (by kernel_rfl) (fun _ _ _ h => h) (Or.inl ⟨by rfl, ?_⟩) HS0.out ?_
          rotate_left
          · (intro w' hS; have q1 := G1.out w' hS; have q2 := G2.out w' hS; have q3 := G3.out w' hS; have q4 := G4.out w' hS; clear hS; go_simp; with_reducible rfl)
          simp only [Act.put, List.setIfInBounds_toArray, List.set_cons_zero, List.set_cons_succ]
          refine AnyK.take (oi := { dst := _, op := _, type := _, pos := _, after := _, guard := _ }) 30 ?_ rfl (by kernel_rfl) (fun _ _ _ h => h) (Or.inl ⟨by rfl, ?_⟩) HS0.out ?_
          rotate_left
          · (intro w' hS; have q1 := G1.out w' hS; have q2 := G2.out w' hS; have q3 := G3.out w' hS; have q4 := G4.out w' hS; clear hS; go_simp; with_reducible rfl)
          simp only [Act.put, List.setIfInBounds_toArray, List.set_cons_zero, List.set_cons_succ]
          refine AnyK.take (oi := { dst := _, op := _, type := _, pos := _, after := _, guard := _ }) 31 ?_ rfl (by kernel_rfl) (fun _ _ _ h => h) (Or.inl ⟨by rfl, ?_⟩) HS0.out ?_
          rotate_left
          · (intro w' hS; have q1 := G1.out w' hS; have q2 := G2.out w' hS; have q3 := G3.out w' hS; have q4 := G4.out w' hS; clear hS; go_simp; with_reducible rfl)
          simp only [Act.put, List.setIfInBounds_toArray, List.set_cons_zero, List.set_cons_succ]
          refine AnyK.take (oi := { dst := _, op := _, type := _, pos := _, after := _, guard := _ }) 32 ?_ rfl (by kernel_rfl) (fun _ _ _ h => h) (Or.inl ⟨by rfl, ?_⟩) HS0.out ?_
          rotate_left
          · (intro w' hS; have q1 := G1.out w' hS; have q2 := G2.out w' hS; have q3 := G3.out w' hS; have q4 := G4.out w' hS; clear hS; go_simp; with_reducible rfl)
          simp only [Act.put, List.setIfInBounds_toArray, List.set_cons_zero, List.set_cons_succ]
          refine AnyK.take (oi := { dst := _, op := _, type := _, pos := _, after := _, guard := _ }) 33 ?_ rfl (by kernel_rfl) (fun _ _ _ h => h) (Or.inl ⟨by rfl, ?_⟩) HS0.out ?_
          rotate_left
          · (intro w' hS; have q1 := G1.out w' hS; have q2 := G2.out w' hS; have q3 := G3.out w' hS; have q4 := G4.out w' hS; clear hS; go_simp; with_reducible rfl)
          simp only [Act.put, List.setIfInBounds_toArray, List.set_cons_zero, List.set_cons_succ]
          refine AnyK.take (oi := { dst := _, op := _, type := _, pos := _, after := _, guard := _ }) 34 ?_ rfl (by kernel_rfl) (fun _ _ _ h => h) (Or.inl ⟨by rfl, ?_⟩) HS0.out ?_
          rotate_left
          · (intro w' hS; have q1 := G1.out w' hS; have q2 := G2.out w' hS; have q3 := G3.out w' hS; have q4 := G4.out w' hS; clear hS; go_simp; with_reducible rfl)
          simp only [Act.put, List.setIfInBounds_toArray, List.set_cons_zero, List.set_cons_succ]
          refine AnyK.take (oi := { dst := _, op := _, type := _, pos := _, after := _, guard := _ }) 35 ?_ rfl (by kernel_rfl) (fun _ _ _ h => h) (Or.inl ⟨by rfl, ?_⟩) HS0.out ?_
          rotate_left
          · (intro w' hS; have q1 := G1.out w' hS; have q2 := G2.out w' hS; have q3 := G3.out w' hS; have q4 := G4.out w' hS; clear hS; go_simp; with_reducible rfl)
          simp only [Act.put, List.setIfInBounds_toArray, List.set_cons_zero, List.set_cons_succ]
          refine AnyK.take (oi := { dst := _, op := _, type := _, pos := _, after := _, guard := _ }) 36 ?_ rfl (by kernel_rfl) (fun _ _ _ h => h) (Or.inl ⟨by rfl, ?_⟩) HS0.out ?_
          rotate_left
          · (intro w' hS; have q1 := G1.out w' hS; have q2 := G2.out w' hS; have q3 := G3.out w' hS; have q4 := G4.out w' hS; clear hS; go_simp; with_reducible rfl)
          simp only [Act.put, List.setIfInBounds_toArray, List.set_cons_zero, List.set_cons_succ]
          have HC := Lib.hid (HCALL.out _ HS0.out)
          refine AnyK.one 37 (by kernel_rfl) rfl (fun KK hK => ?_)
          go_simp
          refine HC.out.mono ?_
          rintro e U1 ⟨rfl, hb⟩
          have HS1 := Lib.hid (HS0.out.trans (hb.mono HS0.out.size))
          clear hb
          refine hK _ _ HS1.out ?_
          clear hK
          refine AnyK.take (oi := { dst := _, op := _, type := _, pos := _, after := _, guard := _ }) 38 ?_ rfl (by kernel_rfl) (fun _ _ _ h => h) (Or.inl ⟨by rfl, ?_⟩) HS1.out ?_
          rotate_left
          · (intro w' hS; have q1 := G1.out w' hS; have q2 := G2.out w' hS; have q3 := G3.out w' hS; have q4 := G4.out w' hS; clear hS; go_simp; with_reducible rfl)
          simp only [Act.put, List.setIfInBounds_toArray, List.set_cons_zero, List.set_cons_succ]
          refine AnyK.late 39 (by kernel_rfl) (by kernel_rfl) rfl (fun KK hK => ?_)
          go_simp
          refine hK _ _ ?_
          clear hK
          refine AnyK.done (by kernel_rfl) ?_ _
          have HX9 := Lib.hid ((HS1.out.block _ (heap_lt HX.out)).trans HX.out)
          have HB9 := Lib.hid (HB.out.trans (HS1.out.mono HB.out.size))
          have HQ9 := Lib.hid (HQ.out.trans (HS1.out.mono HQ.out.size))
          go_wp2_with fail
          exact ⟨⟨k + 1, by omega, by go_num, HX9.out, HB9.out, HQ9.out⟩, by simp [intOf]; omega⟩
        · obtain rfl : k = fl := by omega
          have HX := Lib.hid hX
          have HB := Lib.hid hB
          clear hX hB hq HX8 HB8 HO8
          have e4 : wr.cell? ⟨W.heap.size, 0, none⟩ = some (.slice (some ⟨bb, oo, none⟩) l c) := by rw [Lib.cell_of_heap HX.out]; rfl
          have t1 := HTIS.out wr HB.out xa.name xb.name hna hnb
          have HTR := Lib.hid (fun (h1 : isU ds xa.name xb.name = true) (h2 : isU ds xb.name xc.name = true) => is_trans h1 h2)
          cases hab : isU ds xa.name xb.name with
          | false =>
            rw [hab] at t1
            clear HTR hγ2
            go_wp2_with (go_at_call 24; refine t1.mono ?_)
            rintro e U1 ⟨rfl, hb1⟩
            have HB1 := Lib.hid (HB.out.trans (hb1.mono HB.out.size))
            clear hb1 t1
            go_wp2_with (go_at_call 12; refine (HAW.out _).mono ?_)
            rintro e U2 ⟨rfl, hb2⟩
            have HB2 := Lib.hid (HB1.out.trans (hb2.mono HB1.out.size))
            clear hb2
            go_wp2_with fail
            go_returns
            exact ⟨rfl, HB2.out⟩
          | true =>
            rw [hab] at t1
            go_wp2_with (go_at_call 24; refine t1.mono ?_)
            rintro e U1 ⟨rfl, hb1⟩
            have HB1 := Lib.hid (HB.out.trans (hb1.mono HB.out.size))
            have HX1 := Lib.hid ((hb1.block _ (heap_lt HX.out)).trans HX.out)
            clear hb1 t1 e4
            have e4 : U1.cell? ⟨W.heap.size, 0, none⟩ = some (.slice (some ⟨bb, oo, none⟩) l c) := by rw [Lib.cell_of_heap HX1.out]; rfl
            have t2 := HTIS.out U1 HB1.out xb.name xc.name hnb hnc
            cases hbc : isU ds xb.name xc.name with
            | false =>
              rw [hbc] at t2
              clear HTR hγ2 hab hbc
              go_wp2_with (go_at_call 24; refine t2.mono ?_)
              rintro e U2 ⟨rfl, hb2⟩
              have HB2 := Lib.hid (HB1.out.trans (hb2.mono HB1.out.size))
              clear hb2 t2
              go_wp2_with (go_at_call 12; refine (HAW.out _).mono ?_)
              rintro e U3 ⟨rfl, hb3⟩
              have HB3 := Lib.hid (HB2.out.trans (hb3.mono HB2.out.size))
              clear hb3
              go_wp2_with fail
              go_returns
              exact ⟨rfl, HB3.out⟩
            | true =>
              rw [hbc] at t2
              have hac := HTR.out hab hbc
              have HAC := Lib.hid hac
              clear HTR hγ2 hab hbc hac
              go_wp2_with (go_at_call 24; refine t2.mono ?_)
              rintro e U2 ⟨rfl, hb2⟩
              have HB2 := Lib.hid (HB1.out.trans (hb2.mono HB1.out.size))
              have HX2 := Lib.hid ((hb2.block _ (heap_lt HX1.out)).trans HX1.out)
              clear hb2 t2 e4
              have e4 : U2.cell? ⟨W.heap.size, 0, none⟩ = some (.slice (some ⟨bb, oo, none⟩) l c) := by rw [Lib.cell_of_heap HX2.out]; rfl
              have t3 := HTIS.out U2 HB2.out xa.name xc.name hna hnc
              rw [HAC.out] at t3
              go_wp2_with (go_at_call 24; refine t3.mono ?_)
              rintro e U3 ⟨rfl, hb3⟩
              have HB3 := Lib.hid (HB2.out.trans (hb3.mono HB2.out.size))
              clear hb3 t3
              go_wp2_with (go_at_call 12; refine (HAW.out _).mono ?_)
              rintro e U4 ⟨rfl, hb4⟩
              have HB4 := Lib.hid (HB3.out.trans (hb4.mono HB3.out.size))
              clear hb4
              go_wp2_with fail
              go_returns
              exact ⟨rfl, HB4.out⟩

end Go.Proofs.Ytnjfbcoddbeggaa
