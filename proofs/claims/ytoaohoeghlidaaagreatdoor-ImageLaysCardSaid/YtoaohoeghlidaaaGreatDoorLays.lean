/-
  ImageLays: the walk.
-/
import Derived.Test.YtoaohoeghlidaaaGreatDoorGot
import Derived.Test.YtoaohoeghlidaaaGreatDoorBound
import Derived.Test.YtoaohoeghlidaaaGreatDoorSmI
namespace Go.Proofs.YtoaohoeghlidaaaGreatDoor
open Go.ChangeShapes Go.WideShapes Go.ChangeAt Go.RowKit
section
variable {P : Program} {ops : Array Oper} {Q : Exit → Act → World → Prop} {md : Region.Mode} {S : World → Prop} {s : Nat}
/-- one of two operations comes up, ahead of s -/
theorem AnyK.both (i i' : Nat) {o o' : Oper} {n : Nat} {l : Array Bool} {a : Act} {w : World} (hr : Region.ready md ops l = [i, i']) (ho : ops[i]? = some o) (ho' : ops[i']? = some o')
    (h : ∀ K' : Act → World → Prop, (∀ a w, S w → AnyK P md ops Q s S n (l.setIfInBounds i true) a w → K' a w) → if Region.wanted o (yielded ops a.tmps) = true then Oper.wp P o a w K' Q else K' (a.put o.dst undef) w)
    (h' : ∀ K' : Act → World → Prop, (∀ a w, S w → AnyK P md ops Q s S n (l.setIfInBounds i' true) a w → K' a w) → if Region.wanted o' (yielded ops a.tmps) = true then Oper.wp P o' a w K' Q else K' (a.put o'.dst undef) w) :
    AnyK P md ops Q s S (n + 1) l a w := by
  refine ⟨fun h0 => (by rw [hr] at h0; cases h0), fun j hj => ?_⟩
  rw [hr] at hj
  rcases (by simpa using hj : j = i ∨ j = i') with rfl | rfl
  · exact wpOp_step ho (fun K' hK => h K' (fun a w hS hA => hK a w ⟨fun _ => hS, hA⟩))
  · exact wpOp_step ho' (fun K' hK => h' K' (fun a w hS hA => hK a w ⟨fun _ => hS, hA⟩))
end

theorem bytes_short {x : ImgD} (h : SmallI x) : (bytesOf (layOf x)).length ≤ 100000000000000 := by
  rw [← bytesOf_doc]
  unfold bytesOf
  split
  · simp
  · exact small_len h

set_option maxHeartbeats 16000000 in
set_option maxRecDepth 100000 in
theorem lays_any (W : World) (hE : Env W) (vs us : List Value) (x y : ImgD) (h : shImg.Is (fun k => k < W.heap.size) W vs x) (h' : shImg.Is (fun k => k < W.heap.size) W us y) :
    Calls Tryz.prog 3 #[.agg vs.toArray, .agg us.toArray] W fun e W' => e = .returned (.bool true) ∧ Below W.heap.size W W' := by
  have hs0 := hE.size
  have HE := Lib.hid hE
  have HA := Lib.hid h
  have HC := Lib.hid h'
  obtain ⟨pa0, pl0, pc0, pa1, pl1, pc1, pa2, pl2, pc2, pa3, pl3, pc3, pa5, pl5, pc5, pa6, pl6, pc6, pa7, pl7, pc7, pa8, pl8, pc8, pa9, pl9, pc9, rfl, -⟩ := img_is.1 h
  obtain ⟨qa0, ql0, qc0, qa1, ql1, qc1, qa2, ql2, qc2, qa3, ql3, qc3, qa5, ql5, qc5, qa6, ql6, qc6, qa7, ql7, qc7, qa8, ql8, qc8, qa9, ql9, qc9, rfl, -⟩ := img_is.1 h'
  have hsz0 : ((W.alloc (.cells #[.slice pa0 pl0 pc0, .slice pa1 pl1 pc1, .slice pa2 pl2 pc2, .slice pa3 pl3 pc3, .string x.globals, .slice pa5 pl5 pc5, .slice pa6 pl6 pc6, .slice pa7 pl7 pc7, .slice pa8 pl8 pc8, .slice pa9 pl9 pc9, .int .i64 x.d, .int .i64 x.w] 29)).alloc (.cells #[.slice qa0 ql0 qc0, .slice qa1 ql1 qc1, .slice qa2 ql2 qc2, .slice qa3 ql3 qc3, .string y.globals, .slice qa5 ql5 qc5, .slice qa6 ql6 qc6, .slice qa7 ql7 qc7, .slice qa8 ql8 qc8, .slice qa9 ql9 qc9, .int .i64 y.d, .int .i64 y.w] 29)).heap.size = W.heap.size + 2 := by simp
  have HX0 := Lib.hid ((Below.heap_alloc (W.alloc (.cells #[.slice pa0 pl0 pc0, .slice pa1 pl1 pc1, .slice pa2 pl2 pc2, .slice pa3 pl3 pc3, .string x.globals, .slice pa5 pl5 pc5, .slice pa6 pl6 pc6, .slice pa7 pl7 pc7, .slice pa8 pl8 pc8, .slice pa9 pl9 pc9, .int .i64 x.d, .int .i64 x.w] 29)) (.cells #[.slice qa0 ql0 qc0, .slice qa1 ql1 qc1, .slice qa2 ql2 qc2, .slice qa3 ql3 qc3, .string y.globals, .slice qa5 ql5 qc5, .slice qa6 ql6 qc6, .slice qa7 ql7 qc7, .slice qa8 ql8 qc8, .slice qa9 ql9 qc9, .int .i64 y.d, .int .i64 y.w] 29) W.heap.size (by simp)).trans (heap_alloc_new W (.cells #[.slice pa0 pl0 pc0, .slice pa1 pl1 pc1, .slice pa2 pl2 pc2, .slice pa3 pl3 pc3, .string x.globals, .slice pa5 pl5 pc5, .slice pa6 pl6 pc6, .slice pa7 pl7 pc7, .slice pa8 pl8 pc8, .slice pa9 pl9 pc9, .int .i64 x.d, .int .i64 x.w] 29)))
  have HY0 := Lib.hid (show ((W.alloc (.cells #[.slice pa0 pl0 pc0, .slice pa1 pl1 pc1, .slice pa2 pl2 pc2, .slice pa3 pl3 pc3, .string x.globals, .slice pa5 pl5 pc5, .slice pa6 pl6 pc6, .slice pa7 pl7 pc7, .slice pa8 pl8 pc8, .slice pa9 pl9 pc9, .int .i64 x.d, .int .i64 x.w] 29)).alloc (.cells #[.slice qa0 ql0 qc0, .slice qa1 ql1 qc1, .slice qa2 ql2 qc2, .slice qa3 ql3 qc3, .string y.globals, .slice qa5 ql5 qc5, .slice qa6 ql6 qc6, .slice qa7 ql7 qc7, .slice qa8 ql8 qc8, .slice qa9 ql9 qc9, .int .i64 y.d, .int .i64 y.w] 29)).heap[W.heap.size + 1]? = some (.cells #[.slice qa0 ql0 qc0, .slice qa1 ql1 qc1, .slice qa2 ql2 qc2, .slice qa3 ql3 qc3, .string y.globals, .slice qa5 ql5 qc5, .slice qa6 ql6 qc6, .slice qa7 ql7 qc7, .slice qa8 ql8 qc8, .slice qa9 ql9 qc9, .int .i64 y.d, .int .i64 y.w] 29 (0, 0)) by have := heap_alloc_new (W.alloc (.cells #[.slice pa0 pl0 pc0, .slice pa1 pl1 pc1, .slice pa2 pl2 pc2, .slice pa3 pl3 pc3, .string x.globals, .slice pa5 pl5 pc5, .slice pa6 pl6 pc6, .slice pa7 pl7 pc7, .slice pa8 pl8 pc8, .slice pa9 pl9 pc9, .int .i64 x.d, .int .i64 x.w] 29)) (.cells #[.slice qa0 ql0 qc0, .slice qa1 ql1 qc1, .slice qa2 ql2 qc2, .slice qa3 ql3 qc3, .string y.globals, .slice qa5 ql5 qc5, .slice qa6 ql6 qc6, .slice qa7 ql7 qc7, .slice qa8 ql8 qc8, .slice qa9 ql9 qc9, .int .i64 y.d, .int .i64 y.w] 29); rw [show (W.alloc (.cells #[.slice pa0 pl0 pc0, .slice pa1 pl1 pc1, .slice pa2 pl2 pc2, .slice pa3 pl3 pc3, .string x.globals, .slice pa5 pl5 pc5, .slice pa6 pl6 pc6, .slice pa7 pl7 pc7, .slice pa8 pl8 pc8, .slice pa9 pl9 pc9, .int .i64 x.d, .int .i64 x.w] 29)).heap.size = W.heap.size + 1 by simp] at this; exact this)
  have HB0 := Lib.hid (((Below.refl W.heap.size W).alloc (Nat.le_refl _) (.cells #[.slice pa0 pl0 pc0, .slice pa1 pl1 pc1, .slice pa2 pl2 pc2, .slice pa3 pl3 pc3, .string x.globals, .slice pa5 pl5 pc5, .slice pa6 pl6 pc6, .slice pa7 pl7 pc7, .slice pa8 pl8 pc8, .slice pa9 pl9 pc9, .int .i64 x.d, .int .i64 x.w] 29)).alloc (by simp) (.cells #[.slice qa0 ql0 qc0, .slice qa1 ql1 qc1, .slice qa2 ql2 qc2, .slice qa3 ql3 qc3, .string y.globals, .slice qa5 ql5 qc5, .slice qa6 ql6 qc6, .slice qa7 ql7 qc7, .slice qa8 ql8 qc8, .slice qa9 ql9 qc9, .int .i64 y.d, .int .i64 y.w] 29))
  have hgr := great_small W.heap.size ((W.alloc (.cells #[.slice pa0 pl0 pc0, .slice pa1 pl1 pc1, .slice pa2 pl2 pc2, .slice pa3 pl3 pc3, .string x.globals, .slice pa5 pl5 pc5, .slice pa6 pl6 pc6, .slice pa7 pl7 pc7, .slice pa8 pl8 pc8, .slice pa9 pl9 pc9, .int .i64 x.d, .int .i64 x.w] 29)).alloc (.cells #[.slice qa0 ql0 qc0, .slice qa1 ql1 qc1, .slice qa2 ql2 qc2, .slice qa3 ql3 qc3, .string y.globals, .slice qa5 ql5 qc5, .slice qa6 ql6 qc6, .slice qa7 ql7 qc7, .slice qa8 ql8 qc8, .slice qa9 ql9 qc9, .int .i64 y.d, .int .i64 y.w] 29)) _ x (shImg.keep (fun k hk => HB0.out.block k hk) HA.out) (by rw [hsz0]; omega)
  clear h h' hE
  show Calls Tryz.prog 3 #[.agg #[.slice pa0 pl0 pc0, .slice pa1 pl1 pc1, .slice pa2 pl2 pc2, .slice pa3 pl3 pc3, .string x.globals, .slice pa5 pl5 pc5, .slice pa6 pl6 pc6, .slice pa7 pl7 pc7, .slice pa8 pl8 pc8, .slice pa9 pl9 pc9, .int .i64 x.d, .int .i64 x.w], .agg #[.slice qa0 ql0 qc0, .slice qa1 ql1 qc1, .slice qa2 ql2 qc2, .slice qa3 ql3 qc3, .string y.globals, .slice qa5 ql5 qc5, .slice qa6 ql6 qc6, .slice qa7 ql7 qc7, .slice qa8 ql8 qc8, .slice qa9 ql9 qc9, .int .i64 y.d, .int .i64 y.w]] W _
  go_enter Tryz.func3, Tryz.ntmps3
  go_wp2_with (first | (refine wpList_load_row rfl 29 (.tmp 2) rfl W.heap.size rfl 29 #[.slice pa0 pl0 pc0, .slice pa1 pl1 pc1, .slice pa2 pl2 pc2, .slice pa3 pl3 pc3, .string x.globals, .slice pa5 pl5 pc5, .slice pa6 pl6 pc6, .slice pa7 pl7 pc7, .slice pa8 pl8 pc8, .slice pa9 pl9 pc9, .int .i64 x.d, .int .i64 x.w] (0, 0) _ HX0.out Tryz.underlying29 rfl size29 ?_) | (go_at_call 7; refine hgr.mono ?_))
  rintro e V1 ⟨β1, rfl, hsm1, hb1⟩
  have HB1 := Lib.hid (HB0.out.trans (hb1.mono (by rw [hsz0]; omega)))
  have HX1 := Lib.hid ((hb1.block _ (heap_lt HX0.out)).trans HX0.out)
  have HY1 := Lib.hid ((hb1.block _ (heap_lt HY0.out)).trans HY0.out)
  have HSM := Lib.hid hsm1
  have hz1 : W.heap.size + 2 ≤ V1.heap.size := by have := hb1.size; rw [hsz0] at this; exact this
  clear hgr hb1 hsm1
  cases β1 with
  | true =>
    go_wp2_with (go_at_call 8; refine (awake_any V1 (HE.out.keep HB1.out hs0)).mono ?_)
    rintro e V2 ⟨rfl, hb2⟩
    have HB2 := Lib.hid (HB1.out.trans (hb2.mono HB1.out.size))
    clear hb2
    go_wp2_with fail
    go_returns
    exact ⟨rfl, HB2.out⟩
  | false =>
  have HS := Lib.hid (HSM.out rfl)
  clear HSM
  have hgr := great_small W.heap.size V1 _ y (shImg.keep (fun k hk => HB1.out.block k hk) HC.out) (by omega)
  go_wp2_with (first | (refine wpList_load_row_g (by rfl) 29 (.tmp 3) rfl (W.heap.size + 1) rfl 29 #[.slice qa0 ql0 qc0, .slice qa1 ql1 qc1, .slice qa2 ql2 qc2, .slice qa3 ql3 qc3, .string y.globals, .slice qa5 ql5 qc5, .slice qa6 ql6 qc6, .slice qa7 ql7 qc7, .slice qa8 ql8 qc8, .slice qa9 ql9 qc9, .int .i64 y.d, .int .i64 y.w] (0, 0) _ HY1.out Tryz.underlying29 rfl size29 ?_) | (go_at_call 7; refine hgr.mono ?_))
  rintro e V2 ⟨β2, rfl, -, hb2⟩
  have HB2 := Lib.hid (HB1.out.trans (hb2.mono HB1.out.size))
  have HX2 := Lib.hid ((hb2.block _ (heap_lt HX1.out)).trans HX1.out)
  have HY2 := Lib.hid ((hb2.block _ (heap_lt HY1.out)).trans HY1.out)
  have hz2 : V1.heap.size ≤ V2.heap.size := hb2.size
  clear hgr hb2
  cases β2 with
  | true =>
    go_wp2_with (go_at_call 8; refine (awake_any V2 (HE.out.keep HB2.out hs0)).mono ?_)
    rintro e V3 ⟨rfl, hb3⟩
    have HB3 := Lib.hid (HB2.out.trans (hb3.mono HB2.out.size))
    clear hb3
    go_wp2_with fail
    go_returns
    exact ⟨rfl, HB3.out⟩
  | false =>
  have hly := lay_any V2 _ x (shImg.wide (fun k hk => Nat.lt_of_lt_of_le hk HB2.out.size) (shImg.keep (fun k hk => HB2.out.block k hk) HA.out))
  go_wp2_with (first | (refine wpList_load_row rfl 29 (.tmp 2) rfl W.heap.size rfl 29 #[.slice pa0 pl0 pc0, .slice pa1 pl1 pc1, .slice pa2 pl2 pc2, .slice pa3 pl3 pc3, .string x.globals, .slice pa5 pl5 pc5, .slice pa6 pl6 pc6, .slice pa7 pl7 pc7, .slice pa8 pl8 pc8, .slice pa9 pl9 pc9, .int .i64 x.d, .int .i64 x.w] (0, 0) _ HX2.out Tryz.underlying29 rfl size29 ?_) | (go_at_call 9; refine hly.mono ?_))
  rintro e V3 ⟨hla, hb3⟩
  have HB3 := Lib.hid (HB2.out.trans (hb3.mono HB2.out.size))
  have HX3 := Lib.hid ((hb3.block _ (heap_lt HX2.out)).trans HX2.out)
  have HY3 := Lib.hid ((hb3.block _ (heap_lt HY2.out)).trans HY2.out)
  have hz3 : V2.heap.size ≤ V3.heap.size := hb3.size
  have HBL := Lib.hid (bytes_short HS.out)
  obtain ⟨ax, nx, cx, ev, rfl, hgx, hcd, hov⟩ := laid_open (HE.out.keep HB3.out hs0) hla HBL.out
  have HGX3 := Lib.hid hgx
  have HCD3 := Lib.hid hcd
  have HOV3 := Lib.hid hov
  clear hly hb3 hla hgx hcd hov
  have hdl := vlay_any V3 _ x (shImg.wide (fun k hk => Nat.lt_of_lt_of_le hk HB3.out.size) (shImg.keep (fun k hk => HB3.out.block k hk) HA.out)) (small_len HS.out)
  go_wp2_with (first | (refine wpList_load_row rfl 29 (.tmp 2) rfl W.heap.size rfl 29 #[.slice pa0 pl0 pc0, .slice pa1 pl1 pc1, .slice pa2 pl2 pc2, .slice pa3 pl3 pc3, .string x.globals, .slice pa5 pl5 pc5, .slice pa6 pl6 pc6, .slice pa7 pl7 pc7, .slice pa8 pl8 pc8, .slice pa9 pl9 pc9, .int .i64 x.d, .int .i64 x.w] (0, 0) _ HX3.out Tryz.underlying29 rfl size29 ?_) | (go_at_call 10; refine hdl.mono ?_))
  rintro e V4 ⟨hla, hb4⟩
  have HB4 := Lib.hid (HB3.out.trans (hb4.mono HB3.out.size))
  have HX4 := Lib.hid ((hb4.block _ (heap_lt HX3.out)).trans HX3.out)
  have HY4 := Lib.hid ((hb4.block _ (heap_lt HY3.out)).trans HY3.out)
  have hz4 : V3.heap.size ≤ V4.heap.size := hb4.size
  obtain ⟨ay, ny, cy, rfl, hgy⟩ := doc_open hla
  have HGX4 := Lib.hid (HGX3.out.keep hb4.size (fun k _ hk => hb4.block k hk))
  have HGY4 := Lib.hid hgy
  have HCD4 := Lib.hid (fun V (hb : Below V4.heap.size V4 V) => HCD3.out V (hb4.trans (hb.mono hz4)))
  have HOV4 := Lib.hid (fun V (hb : Below V4.heap.size V4 V) => HOV3.out V (hb4.trans (hb.mono hz4)))
  clear hdl hb4 hla hgy HGX3 HCD3 HOV3
  obtain ⟨fv, hfv⟩ : ∃ fv, codeOf (layOf x) = fv := ⟨_, rfl⟩
  rw [hfv] at HCD4
  simp only [hfv]
  obtain ⟨bs, hbs⟩ : ∃ bs, bytesOf (layOf x) = bs := ⟨_, rfl⟩
  rw [hbs] at HGX4 HGY4
  clear hfv
  obtain ⟨β, hβ⟩ : ∃ β : Bool, (β = true ↔ x = y) := by
    by_cases hxy : x = y
    · exact ⟨true, by simp [hxy]⟩
    · exact ⟨false, by simp [hxy]⟩
  have HAI := Lib.hid (fun V (hb : Below V4.heap.size V4 V) => shImg.keep (W' := V) (fun k hk => (HB4.out.trans (hb.mono HB4.out.size)).block k hk) HA.out)
  have HCI := Lib.hid (fun V (hb : Below V4.heap.size V4 V) => shImg.keep (W' := V) (fun k hk => (HB4.out.trans (hb.mono HB4.out.size)).block k hk) HC.out)
  have HBX4 := Lib.hid (fun V (hb : Below V4.heap.size V4 V) => (hb.block _ (heap_lt HX4.out)).trans HX4.out)
  have HBY4 := Lib.hid (fun V (hb : Below V4.heap.size V4 V) => (hb.block _ (heap_lt HY4.out)).trans HY4.out)
  have h11 := Lib.hid (fun V (hb : Below V4.heap.size V4 V) => (eq_bytes _ _ V _ _ _ _ _ _ bs (HGX4.out.bytes.keep (fun k hk => hb.block k hk)) (HGY4.out.bytes.keep (fun k hk => hb.block k hk))).mono (fun e V' (h : e = .returned (.bool true) ∧ ∃ m, V' = V.drewN m) => (show e = .returned (.bool true) ∧ Below V.heap.size V V' from ⟨h.1, by obtain ⟨m, hm⟩ := h.2; rw [hm]; exact below_drew (Below.refl _ _) m⟩)))
  have hcd := HCD4
  have hsm := Lib.hid (fun V (hb : Below V4.heap.size V4 V) => (sm_img W.heap.size V _ _ x y (HAI.out V hb) (HCI.out V hb) (by have := HB4.out.size; have := hb.size; omega)).mono (fun e V' (h : (∃ b : Bool, e = .returned (.bool b) ∧ (b = true ↔ x = y)) ∧ Below V.heap.size V V') => (show e = .returned (.bool β) ∧ Below V.heap.size V V' from ⟨by obtain ⟨b, h1, h2⟩ := h.1; rw [h1, Bool.eq_iff_iff.2 (h2.trans hβ.symm)], h.2⟩)))
  have hss := Lib.hid (fun V (hb : Below V4.heap.size V4 V) => (sm_img W.heap.size V _ _ x x (HAI.out V hb) (HAI.out V hb) (by have := HB4.out.size; have := hb.size; omega)).mono (fun e V' (h : (∃ b : Bool, e = .returned (.bool b) ∧ (b = true ↔ x = x)) ∧ Below V.heap.size V V') => (show e = .returned (.bool true) ∧ Below V.heap.size V V' from ⟨by obtain ⟨b, h1, h2⟩ := h.1; rw [h1, h2.2 rfl], h.2⟩)))
  have hsi := Lib.hid (fun V (hb : Below V4.heap.size V4 V) => same_image (HAI.out V hb) (HCI.out V hb) (by have := HB4.out.size; have := hb.size; omega) β hβ)
  have HS0 := Lib.hid (show Below V4.heap.size V4 V4.drew from ⟨rfl, rfl, rfl, Nat.le_refl _, fun _ _ => rfl⟩)
  clear hβ
  go_wp2_with fail
  refine AnyK.start 23 (fun w' => Below V4.heap.size V4 w') rfl HS0.out (fun _ => ?_)
  refine AnyK.take (oi := { dst := _, op := _, type := _, pos := _, after := _, guard := _ }) 0 ?_ rfl (by kernel_rfl) (fun _ _ _ h => h) (Or.inl ⟨by rfl, ?_⟩) HS0.out ?_
  rotate_left
  · (intro w' _; go_simp; with_reducible rfl)
  simp only [Act.put, List.setIfInBounds_toArray, List.set_cons_zero, List.set_cons_succ]
  refine AnyK.take (oi := { dst := _, op := _, type := _, pos := _, after := _, guard := _ }) 1 ?_ rfl (by kernel_rfl) (fun _ _ _ h => h) (Or.inl ⟨by rfl, ?_⟩) HS0.out ?_
  rotate_left
  · (intro w' _; go_simp; with_reducible rfl)
  simp only [Act.put, List.setIfInBounds_toArray, List.set_cons_zero, List.set_cons_succ]
  have HC0 := Lib.hid (h11.out _ HS0.out)
  refine AnyK.one 2 (by kernel_rfl) rfl (fun KK hK => ?_)
  go_simp
  refine HC0.out.mono ?_
  rintro e U1 ⟨rfl, hb⟩
  have HS1 := Lib.hid (HS0.out.trans (hb.mono HS0.out.size))
  clear hb
  refine hK _ _ HS1.out ?_
  clear hK
  refine AnyK.take (oi := { dst := _, op := _, type := _, pos := _, after := _, guard := _ }) 3 ?_ rfl (by kernel_rfl) (fun _ _ _ h => h) (Or.inl ⟨by rfl, ?_⟩) HS1.out ?_
  rotate_left
  · (intro w' _; go_simp; with_reducible rfl)
  simp only [Act.put, List.setIfInBounds_toArray, List.set_cons_zero, List.set_cons_succ]
  refine AnyK.take (oi := { dst := _, op := _, type := _, pos := _, after := _, guard := _ }) 4 ?_ rfl (by kernel_rfl) (fun _ _ _ h => h) (Or.inl ⟨by rfl, ?_⟩) HS1.out ?_
  rotate_left
  · (intro w' _; go_simp; with_reducible rfl)
  simp only [Act.put, List.setIfInBounds_toArray, List.set_cons_zero, List.set_cons_succ]
  refine AnyK.take (oi := { dst := _, op := _, type := _, pos := _, after := _, guard := _ }) 6 ?_ rfl (by kernel_rfl) (fun _ _ _ h => h) (Or.inl ⟨by rfl, ?_⟩) HS1.out ?_
  rotate_left
  · (intro w' _; go_simp; with_reducible rfl)
  simp only [Act.put, List.setIfInBounds_toArray, List.set_cons_zero, List.set_cons_succ]
  have HC1 := Lib.hid (hcd.out _ HS1.out)
  refine AnyK.one 5 (by kernel_rfl) rfl (fun KK hK => ?_)
  go_simp
  refine HC1.out.mono ?_
  rintro e U2 ⟨rfl, hb⟩
  have HS2 := Lib.hid (HS1.out.trans (hb.mono HS1.out.size))
  clear hb
  refine hK _ _ HS2.out ?_
  clear hK
  refine AnyK.take (oi := { dst := _, op := _, type := _, pos := _, after := _, guard := _ }) 7 ?_ rfl (by kernel_rfl) (fun _ _ _ h => h) (Or.inl ⟨by rfl, ?_⟩) HS2.out ?_
  rotate_left
  · (intro w' _; go_simp; with_reducible rfl)
  simp only [Act.put, List.setIfInBounds_toArray, List.set_cons_zero, List.set_cons_succ]
  refine AnyK.take (oi := { dst := _, op := _, type := _, pos := _, after := _, guard := _ }) 8 ?_ rfl (by kernel_rfl) (fun _ _ _ h => h) (Or.inl ⟨by rfl, ?_⟩) HS2.out ?_
  rotate_left
  · (intro w' _; go_simp; with_reducible rfl)
  simp only [Act.put, List.setIfInBounds_toArray, List.set_cons_zero, List.set_cons_succ]
  refine AnyK.take (oi := { dst := _, op := _, type := _, pos := _, after := _, guard := _ }) 9 ?_ rfl (by kernel_rfl) (fun _ _ _ h => h) (Or.inl ⟨by rfl, ?_⟩) HS2.out ?_
  rotate_left
  · (intro w' _; go_simp; with_reducible rfl)
  simp only [Act.put, List.setIfInBounds_toArray, List.set_cons_zero, List.set_cons_succ]
  refine AnyK.take (oi := { dst := _, op := _, type := _, pos := _, after := _, guard := _ }) 10 _ rfl (by kernel_rfl) (fun _ _ _ h => h) (yields_load_row (by rfl) 29 (.tmp 2) rfl W.heap.size rfl 29 #[.slice pa0 pl0 pc0, .slice pa1 pl1 pc1, .slice pa2 pl2 pc2, .slice pa3 pl3 pc3, .string x.globals, .slice pa5 pl5 pc5, .slice pa6 pl6 pc6, .slice pa7 pl7 pc7, .slice pa8 pl8 pc8, .slice pa9 pl9 pc9, .int .i64 x.d, .int .i64 x.w] (0, 0) _ HBX4.out Tryz.underlying29 rfl size29) HS2.out ?_
  simp only [Act.put, List.setIfInBounds_toArray, List.set_cons_zero, List.set_cons_succ]
  refine AnyK.take (oi := { dst := _, op := _, type := _, pos := _, after := _, guard := _ }) 11 _ rfl (by kernel_rfl) (fun _ _ _ h => h) (yields_load_row (by rfl) 29 (.tmp 3) rfl (W.heap.size + 1) rfl 29 #[.slice qa0 ql0 qc0, .slice qa1 ql1 qc1, .slice qa2 ql2 qc2, .slice qa3 ql3 qc3, .string y.globals, .slice qa5 ql5 qc5, .slice qa6 ql6 qc6, .slice qa7 ql7 qc7, .slice qa8 ql8 qc8, .slice qa9 ql9 qc9, .int .i64 y.d, .int .i64 y.w] (0, 0) _ HBY4.out Tryz.underlying29 rfl size29) HS2.out ?_
  simp only [Act.put, List.setIfInBounds_toArray, List.set_cons_zero, List.set_cons_succ]
  refine AnyK.take (oi := { dst := _, op := _, type := _, pos := _, after := _, guard := _ }) 13 _ rfl (by kernel_rfl) (fun _ _ _ h => h) (yields_load_row (by rfl) 29 (.tmp 2) rfl W.heap.size rfl 29 #[.slice pa0 pl0 pc0, .slice pa1 pl1 pc1, .slice pa2 pl2 pc2, .slice pa3 pl3 pc3, .string x.globals, .slice pa5 pl5 pc5, .slice pa6 pl6 pc6, .slice pa7 pl7 pc7, .slice pa8 pl8 pc8, .slice pa9 pl9 pc9, .int .i64 x.d, .int .i64 x.w] (0, 0) _ HBX4.out Tryz.underlying29 rfl size29) HS2.out ?_
  simp only [Act.put, List.setIfInBounds_toArray, List.set_cons_zero, List.set_cons_succ]
  refine AnyK.take (oi := { dst := _, op := _, type := _, pos := _, after := _, guard := _ }) 14 _ rfl (by kernel_rfl) (fun _ _ _ h => h) (yields_load_row (by rfl) 29 (.tmp 3) rfl (W.heap.size + 1) rfl 29 #[.slice qa0 ql0 qc0, .slice qa1 ql1 qc1, .slice qa2 ql2 qc2, .slice qa3 ql3 qc3, .string y.globals, .slice qa5 ql5 qc5, .slice qa6 ql6 qc6, .slice qa7 ql7 qc7, .slice qa8 ql8 qc8, .slice qa9 ql9 qc9, .int .i64 y.d, .int .i64 y.w] (0, 0) _ HBY4.out Tryz.underlying29 rfl size29) HS2.out ?_
  simp only [Act.put, List.setIfInBounds_toArray, List.set_cons_zero, List.set_cons_succ]
  have HC2 := Lib.hid (hsm.out _ HS2.out)
  refine AnyK.one 12 (by kernel_rfl) rfl (fun KK hK => ?_)
  go_simp
  refine HC2.out.mono ?_
  rintro e U3 ⟨rfl, hb⟩
  have HS3 := Lib.hid (HS2.out.trans (hb.mono HS2.out.size))
  clear hb
  refine hK _ _ HS3.out ?_
  clear hK
  have HC3 := Lib.hid (hsi.out _ HS3.out)
  refine AnyK.one 15 (by kernel_rfl) rfl (fun KK hK => ?_)
  go_simp
  refine HC3.out.mono ?_
  rintro e U4 ⟨rfl, hb⟩
  have HS4 := Lib.hid (HS3.out.trans (hb.mono HS3.out.size))
  clear hb
  refine hK _ _ HS4.out ?_
  clear hK
  refine AnyK.take (oi := { dst := _, op := _, type := _, pos := _, after := _, guard := _ }) 16 ?_ rfl (by kernel_rfl) (fun _ _ _ h => h) (Or.inl ⟨by rfl, ?_⟩) HS4.out ?_
  rotate_left
  · (intro w' _; go_simp; with_reducible rfl)
  simp only [Act.put, List.setIfInBounds_toArray, List.set_cons_zero, List.set_cons_succ]
  refine AnyK.take (oi := { dst := _, op := _, type := _, pos := _, after := _, guard := _ }) 17 ?_ rfl (by kernel_rfl) (fun _ _ _ h => h) (Or.inl ⟨by rfl, ?_⟩) HS4.out ?_
  rotate_left
  · (intro w' _; go_simp; with_reducible rfl)
  simp only [Act.put, List.setIfInBounds_toArray, List.set_cons_zero, List.set_cons_succ]
  refine AnyK.take (oi := { dst := _, op := _, type := _, pos := _, after := _, guard := _ }) 18 ?_ rfl (by kernel_rfl) (fun _ _ _ h => h) (Or.inl ⟨by rfl, ?_⟩) HS4.out ?_
  rotate_left
  · (intro w' _; go_simp; with_reducible rfl)
  simp only [Act.put, List.setIfInBounds_toArray, List.set_cons_zero, List.set_cons_succ]
  refine AnyK.take (oi := { dst := _, op := _, type := _, pos := _, after := _, guard := _ }) 19 _ rfl (by kernel_rfl) (fun _ _ _ h => h) (yields_load_row (by rfl) 29 (.tmp 2) rfl W.heap.size rfl 29 #[.slice pa0 pl0 pc0, .slice pa1 pl1 pc1, .slice pa2 pl2 pc2, .slice pa3 pl3 pc3, .string x.globals, .slice pa5 pl5 pc5, .slice pa6 pl6 pc6, .slice pa7 pl7 pc7, .slice pa8 pl8 pc8, .slice pa9 pl9 pc9, .int .i64 x.d, .int .i64 x.w] (0, 0) _ HBX4.out Tryz.underlying29 rfl size29) HS4.out ?_
  simp only [Act.put, List.setIfInBounds_toArray, List.set_cons_zero, List.set_cons_succ]
  refine AnyK.take (oi := { dst := _, op := _, type := _, pos := _, after := _, guard := _ }) 20 _ rfl (by kernel_rfl) (fun _ _ _ h => h) (yields_load_row (by rfl) 29 (.tmp 2) rfl W.heap.size rfl 29 #[.slice pa0 pl0 pc0, .slice pa1 pl1 pc1, .slice pa2 pl2 pc2, .slice pa3 pl3 pc3, .string x.globals, .slice pa5 pl5 pc5, .slice pa6 pl6 pc6, .slice pa7 pl7 pc7, .slice pa8 pl8 pc8, .slice pa9 pl9 pc9, .int .i64 x.d, .int .i64 x.w] (0, 0) _ HBX4.out Tryz.underlying29 rfl size29) HS4.out ?_
  simp only [Act.put, List.setIfInBounds_toArray, List.set_cons_zero, List.set_cons_succ]
  have HC4 := Lib.hid (hss.out _ HS4.out)
  refine AnyK.one 21 (by kernel_rfl) rfl (fun KK hK => ?_)
  go_simp
  refine HC4.out.mono ?_
  rintro e U5 ⟨rfl, hb⟩
  have HS5 := Lib.hid (HS4.out.trans (hb.mono HS4.out.size))
  clear hb
  refine hK _ _ HS5.out ?_
  clear hK
  refine AnyK.take (oi := { dst := _, op := _, type := _, pos := _, after := _, guard := _ }) 22 ?_ rfl (by kernel_rfl) (fun _ _ _ h => h) (Or.inl ⟨by rfl, ?_⟩) HS5.out ?_
  rotate_left
  · (intro w' _; go_simp; with_reducible rfl)
  simp only [Act.put, List.setIfInBounds_toArray, List.set_cons_zero, List.set_cons_succ]
  refine AnyK.late 23 (by kernel_rfl) (by kernel_rfl) rfl (fun KK hK => ?_)
  go_simp
  refine hK _ _ ?_
  clear hK
  refine AnyK.done (by kernel_rfl) ?_ _
  obtain ⟨V9, hV9⟩ : ∃ V, U5 = V := ⟨_, rfl⟩
  have HB9 := Lib.hid (show Below V4.heap.size V4 V9 by rw [← hV9]; exact HS5.out)
  rw [hV9]
  clear hV9
  have hov := HOV4.out V9 HB9.out
  go_wp2_with (go_at_call 15; refine hov.mono ?_)
  rintro e V10 ⟨rfl, hm10⟩
  have HB10 := Lib.hid (Most.below (HB4.out.trans (HB9.out.mono HB4.out.size)) hm10 (by have := HB2.out.size; omega) (by have := HB4.out.size; have := HB9.out.size; omega))
  have HX10 := Lib.hid ((hm10.block _ (heap_lt (HBX4.out V9 HB9.out)) (.inl (by omega))).trans (HBX4.out V9 HB9.out))
  have HGY10 := Lib.hid ((HGY4.out.keep (W' := V9) HB9.out.size (fun k _ hk => HB9.out.block k hk)).keep (W' := V10) hm10.size (fun k hk hk2 => hm10.block k hk2 (.inr hk)))
  clear hov hm10
  have hly := lay_any V10 _ x (shImg.wide (fun k hk => Nat.lt_of_lt_of_le hk HB10.out.size) (shImg.keep (fun k hk => HB10.out.block k hk) HA.out))
  go_wp2_with (first | (refine wpList_load_row rfl 29 (.tmp 2) rfl W.heap.size rfl 29 #[.slice pa0 pl0 pc0, .slice pa1 pl1 pc1, .slice pa2 pl2 pc2, .slice pa3 pl3 pc3, .string x.globals, .slice pa5 pl5 pc5, .slice pa6 pl6 pc6, .slice pa7 pl7 pc7, .slice pa8 pl8 pc8, .slice pa9 pl9 pc9, .int .i64 x.d, .int .i64 x.w] (0, 0) _ HX10.out Tryz.underlying29 rfl size29 ?_) | (go_at_call 9; refine hly.mono ?_))
  rintro e V11 ⟨hla, hb11⟩
  have HB11 := Lib.hid (HB10.out.trans (hb11.mono HB10.out.size))
  have HGY11 := Lib.hid (HGY10.out.keep (W' := V11) hb11.size (fun k _ hk => hb11.block k hk))
  obtain ⟨az, nz, cz, ez, rfl, hgz, -, -⟩ := laid_open (HE.out.keep HB11.out hs0) hla HBL.out
  rw [hbs] at hgz
  have heq := eq_bytes _ _ V11 _ _ _ _ _ _ bs hgz.bytes HGY11.out.bytes
  clear hly hb11 hla hgz
  go_wp2_with (go_at_call 11; refine heq.mono ?_)
  rintro e V12 ⟨rfl, m, hV12⟩
  have HB12 := Lib.hid (show Below W.heap.size W V12 by rw [hV12]; exact below_drew HB11.out m)
  clear heq hV12
  go_wp2_with (go_at_call 8; refine (awake_any V12 (HE.out.keep HB12.out hs0)).mono ?_)
  rintro e V13 ⟨rfl, hbz⟩
  have HBZ := Lib.hid (HB12.out.trans (hbz.mono HB12.out.size))
  clear hbz
  go_wp2_with fail
  go_returns
  exact ⟨rfl, HBZ.out⟩
end Go.Proofs.YtoaohoeghlidaaaGreatDoor
