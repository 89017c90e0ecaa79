/-
  ImageFlips: the walk.
-/
import Derived.Test.YtoaohoeghlidaaaGreatDoorBack
import Derived.Test.YtoaohoeghlidaaaGreatDoorNeI
import Derived.Test.YtoaohoeghlidaaaGreatDoorFlip
import Derived.Laws.OwnMore
namespace Go.Proofs.YtoaohoeghlidaaaGreatDoor
open Go.ChangeShapes Go.WideShapes Go.ChangeAt Go.RowKit

section
variable {P : Program} {ops : Array Oper} {Q : Exit → Act → World → Prop} {md : Region.Mode} {S : World → Prop} {s : Nat}
/-- one of two operations comes up, ahead of s -/
theorem AnyK.two (i i' : Nat) {o o' : Oper} {n : Nat} {l : Array Bool} {a : Act} {w : World} (hr : Region.ready md ops l = [i, i']) (ho : ops[i]? = some o) (ho' : ops[i']? = some o')
    (h : ∀ K' : Act → World → Prop, (∀ a w, S w → AnyK P md ops Q s S n (l.setIfInBounds i true) a w → K' a w) → if Region.wanted o (yielded ops a.tmps) = true then Oper.wp P o a w K' Q else K' (a.put o.dst undef) w)
    (h' : ∀ K' : Act → World → Prop, (∀ a w, S w → AnyK P md ops Q s S n (l.setIfInBounds i' true) a w → K' a w) → if Region.wanted o' (yielded ops a.tmps) = true then Oper.wp P o' a w K' Q else K' (a.put o'.dst undef) w) :
    AnyK P md ops Q s S (n + 1) l a w := by
  refine ⟨fun h0 => (by rw [hr] at h0; cases h0), fun j hj => ?_⟩
  rw [hr] at hj
  rcases (by simpa using hj : j = i ∨ j = i') with rfl | rfl
  · exact wpOp_step ho (fun K' hK => h K' (fun a w hS hA => hK a w ⟨fun _ => hS, hA⟩))
  · exact wpOp_step ho' (fun K' hK => h' K' (fun a w hS hA => hK a w ⟨fun _ => hS, hA⟩))
end
theorem flip_wrap : ∀ k : Fin 8, IntKind.u8.wrap (2 ^ k.val) = 2 ^ k.val := by decide +kernel
set_option maxHeartbeats 6400000 in
set_option maxRecDepth 100000 in
theorem flips_any (W : World) (hE : Env W) (vs : List Value) (x : ImgD) (h : shImg.Is (fun k => k < W.heap.size) W vs x) (at_ bit : Int) :
    Calls Tryz.prog 6 #[.agg vs.toArray, .int .i64 at_, .int .i64 bit] W fun e W' => e = .returned (.bool true) ∧ Below W.heap.size W W' := by
  have hs0 := hE.size
  have HE := Lib.hid hE
  have H := Lib.hid h
  obtain ⟨a0, l0, c0, a1, l1, c1, a2, l2, c2, a3, l3, c3, a5, l5, c5, a6, l6, c6, a7, l7, c7, a8, l8, c8, a9, l9, c9, rfl, -⟩ := img_is.1 h
  have HX0 := Lib.hid (show (W.alloc (.cells #[.slice a0 l0 c0, .slice a1 l1 c1, .slice a2 l2 c2, .slice a3 l3 c3, .string x.globals, .slice a5 l5 c5, .slice a6 l6 c6, .slice a7 l7 c7, .slice a8 l8 c8, .slice a9 l9 c9, .int .i64 x.d, .int .i64 x.w] 29)).heap[W.heap.size]? = some (.cells #[.slice a0 l0 c0, .slice a1 l1 c1, .slice a2 l2 c2, .slice a3 l3 c3, .string x.globals, .slice a5 l5 c5, .slice a6 l6 c6, .slice a7 l7 c7, .slice a8 l8 c8, .slice a9 l9 c9, .int .i64 x.d, .int .i64 x.w] 29 (0, 0)) from heap_alloc_new W _)
  have HB0 := Lib.hid ((Below.refl W.heap.size W).alloc (Nat.le_refl _) (.cells #[.slice a0 l0 c0, .slice a1 l1 c1, .slice a2 l2 c2, .slice a3 l3 c3, .string x.globals, .slice a5 l5 c5, .slice a6 l6 c6, .slice a7 l7 c7, .slice a8 l8 c8, .slice a9 l9 c9, .int .i64 x.d, .int .i64 x.w] 29))
  have hgr := great_any W.heap.size (W.alloc (.cells #[.slice a0 l0 c0, .slice a1 l1 c1, .slice a2 l2 c2, .slice a3 l3 c3, .string x.globals, .slice a5 l5 c5, .slice a6 l6 c6, .slice a7 l7 c7, .slice a8 l8 c8, .slice a9 l9 c9, .int .i64 x.d, .int .i64 x.w] 29)) _ x (shImg.keep (fun k hk => HB0.out.block k hk) H.out) (by simp)
  clear h hE
  show Calls Tryz.prog 6 #[.agg #[.slice a0 l0 c0, .slice a1 l1 c1, .slice a2 l2 c2, .slice a3 l3 c3, .string x.globals, .slice a5 l5 c5, .slice a6 l6 c6, .slice a7 l7 c7, .slice a8 l8 c8, .slice a9 l9 c9, .int .i64 x.d, .int .i64 x.w], .int .i64 at_, .int .i64 bit] W _
  go_enter Tryz.func6, Tryz.ntmps6
  go_wp2_with (first | (refine wpList_load_row rfl 29 (.tmp 3) rfl W.heap.size rfl 29 #[.slice a0 l0 c0, .slice a1 l1 c1, .slice a2 l2 c2, .slice a3 l3 c3, .string x.globals, .slice a5 l5 c5, .slice a6 l6 c6, .slice a7 l7 c7, .slice a8 l8 c8, .slice a9 l9 c9, .int .i64 x.d, .int .i64 x.w] (0, 0) _ HX0.out Tryz.underlying29 rfl size29 ?_) | (go_at_call 7; refine hgr.mono ?_))
  rintro e V1 ⟨β, rfl, hb1⟩
  have HB1 := Lib.hid (HB0.out.trans (hb1.mono (by simp)))
  have HX1 := Lib.hid ((hb1.block _ (heap_lt HX0.out)).trans HX0.out)
  clear hgr hb1
  cases β with
  | true =>
    go_wp2_with (go_at_call 8; refine (awake_any V1 (HE.out.keep HB1.out hs0)).mono ?_)
    rintro e V2 ⟨rfl, hb2⟩
    have HB2 := Lib.hid (HB1.out.trans (hb2.mono HB1.out.size))
    clear hb2
    go_wp2_with fail
    go_returns
    exact ⟨rfl, HB2.out⟩
  | false =>
  have hly := lay_any V1 _ x (shImg.wide (fun k hk => Nat.lt_of_lt_of_le hk HB1.out.size) (shImg.keep (fun k hk => HB1.out.block k hk) H.out))
  go_wp2_with (first | (refine wpList_load_row rfl 29 (.tmp 3) rfl W.heap.size rfl 29 #[.slice a0 l0 c0, .slice a1 l1 c1, .slice a2 l2 c2, .slice a3 l3 c3, .string x.globals, .slice a5 l5 c5, .slice a6 l6 c6, .slice a7 l7 c7, .slice a8 l8 c8, .slice a9 l9 c9, .int .i64 x.d, .int .i64 x.w] (0, 0) _ HX1.out Tryz.underlying29 rfl size29 ?_) | (go_at_call 9; refine hly.mono ?_))
  rintro e V2 ⟨hla, hb2⟩
  have HX2 := Lib.hid ((hb2.block _ (heap_lt HX1.out)).trans HX1.out)
  have HB2 := Lib.hid (HB1.out.trans (hb2.mono HB1.out.size))
  clear hly hb2
  rcases hla with ⟨hful, ge, rfl, hge⟩ | ⟨hful, g, cap, rfl, hown⟩
  · clear hful hge
    go_wp2_with (go_at_call 8; refine (awake_any V2 (HE.out.keep HB2.out hs0)).mono ?_)
    rintro e V3 ⟨rfl, hb3⟩
    have HB3 := Lib.hid (HB2.out.trans (hb3.mono HB2.out.size))
    clear hb3
    go_wp2_with fail
    go_returns
    exact ⟨rfl, HB3.out⟩
  · have hfr := lay_fresh hful rfl
    have hgrow := lay_len x
    have hpos := lay_pos hful
    obtain ⟨bs, hbs⟩ : ∃ bs, (layOf x).bs = bs := ⟨_, rfl⟩
    rw [hbs] at hown hfr hgrow hpos ⊢
    obtain ⟨n, hn⟩ : ∃ n, bs.length = n := ⟨_, rfl⟩
    simp only [hn] at hown hgrow hpos ⊢
    have hby := bytes_of_own hown
    have hn0 : ((n : Int) == 0) = false := by simp; omega
    have hcap : n ≤ cap := hby.2.1
    have hcapm : cap ≤ 9223372036854775807 := by have := hby.2.2.1; unfold maxLen at this; omega
    have HBY := Lib.hid hby
    have HN := Lib.hid hn
    have HLY := Lib.hid (show layOf x = ⟨bs, false⟩ by rw [← hbs, ← hful])
    clear hbs hown hful hby hn hfr
    have hlow := low_bd at_ n (by omega)
    obtain ⟨kk, hkk⟩ : ∃ kk : Nat, low at_ n = (kk : Int) := ⟨(low at_ n).toNat, by omega⟩
    have hbd := low_bd bit 8 (by omega)
    obtain ⟨tt, htt⟩ : ∃ tt : Nat, low bit 8 = (tt : Int) := ⟨(low bit 8).toNat, by omega⟩
    rw [hkk] at hlow
    rw [htt] at hbd
    have hkn : kk < n := by omega
    have ht8 : tt < 8 := by omega
    clear hlow hbd
    obtain ⟨i00, hi, hz0, hz1, hz2⟩ := info_parts info5
    have hcells : ∀ j u, (byteCells bs)[j]? = some u → V2.cell? ((⟨g, 0, none⟩ : Addr).add j) = some u := by
      intro j u hj
      obtain ⟨_, _, _, b4⟩ := HBY.out
      rcases b4 with ⟨h, _⟩ | ⟨bb, o, h, _, hc⟩
      · cases h
      · simp only [Option.some.injEq, Addr.mk.injEq, and_true] at h
        obtain ⟨rfl, rfl⟩ := h
        simp only [byteCells, List.getElem?_map, Option.map_eq_some_iff] at hj
        obtain ⟨c, hj, rfl⟩ := hj
        rw [add_at rfl]
        exact hc j c hj
    have hby1 : ∀ u ∈ byteCells bs, u.oneCell' = true := by
      intro u hu
      simp only [byteCells, List.mem_map] at hu
      obtain ⟨c, _, rfl⟩ := hu
      rfl
    have HCL := Lib.hid hcells
    have HB1C := Lib.hid hby1
    clear hcells hby1
    go_wp2_with (at_builtin; refine wpList_append_own _ rfl (.const (.slice none 0 0)) (.tmp 29) 32 rfl V2.heap.size 5 i00 (.int .u8 0) 1 1 Tryz.underlying32 hi hz0 hz1 hz2 rfl (by decide) (.slice none 0 0) 0 [] rfl (World.ownsRow_nil _ _ _ _) ⟨g, 0, none⟩ n cap (byteCells bs) rfl (by rw [byteCells_len, HN.out]; omega) HCL.out HB1C.out ?c3 ?c4 ?c5 ?_)
    case c3 => unfold maxLen; omega
    case c4 => omega
    case c5 => exact Nat.le_refl _
    intro v3 V3 hown3 hgrow3 _
    obtain ⟨g3, cap3, rfl⟩ := Joins.ownsRow_form hown3 (by omega)
    have hk3 : ∀ k, k < V2.heap.size → V3.heap[k]? = V2.heap[k]? := fun k hk => hgrow3.block k hk (by simp [Value.ownBlock])
    have HB3 := Lib.hid (show Below W.heap.size W V3 from ⟨hgrow3.os.trans HB2.out.os, hgrow3.tape.trans HB2.out.tape, hgrow3.output.trans HB2.out.output, Nat.le_trans HB2.out.size hgrow3.size, fun k hk => (hk3 k (by have := HB2.out.size; omega)).trans (HB2.out.block k hk)⟩)
    have HX3 := Lib.hid ((hk3 W.heap.size (heap_lt HX2.out)).trans HX2.out)
    have HO3 := Lib.hid hown3
    have hs3 := hgrow3.size
    clear hgrow3 hown3 hk3
    have hlw := low_any at_ n (by omega) (by omega) V3
    rw [hkk] at hlw
    go_wp2_with (go_at_call 19; refine hlw.mono ?_; rintro e V4 ⟨rfl, rfl⟩)
    have i0 : (0 : Int) ≤ (kk : Int) := by omega
    have i1 : (kk : Int) < (n : Int) := by omega
    obtain ⟨b, hb⟩ : ∃ b, bs[kk]? = some b := ⟨bs[kk]'(by rw [HN.out]; exact hkn), List.getElem?_eq_getElem _⟩
    have hcell : V4.drew.cell? ⟨g3, kk, none⟩ = some (.int .u8 b.toNat) := by
      obtain ⟨_, _, _, b4⟩ := bytes_of_own HO3.out
      rcases b4 with ⟨h, _⟩ | ⟨bb, o, h, _, hc⟩
      · cases h
      · simp only [Option.some.injEq, Addr.mk.injEq, and_true] at h
        obtain ⟨rfl, rfl⟩ := h
        have := hc kk b hb
        simpa using this
    have hfz := HO3.out.frozenAt kk
    have hlb := low_any bit 8 (by omega) (by omega) V4.drew
    rw [htt] at hlb
    have hpick : IntKind.u8.wrap (2 ^ tt) = 2 ^ tt := flip_wrap ⟨tt, ht8⟩
    obtain ⟨c', hc', hxor⟩ := flip_u8 b tt ht8
    refine AnyK.start 11 (fun w' => w' = V4.drew) rfl rfl (fun _ => ?_)
    refine AnyK.take (oi := { dst := _, op := _, type := _, pos := _, after := _, guard := _ }) 0 ?_ rfl (by kernel_rfl) (fun _ _ _ h => h) (Or.inl ⟨by rfl, ?_⟩) rfl ?_
    rotate_left
    · (intro w' hS; subst hS; go_simp; with_reducible rfl)
    simp only [Act.put, List.setIfInBounds_toArray, List.set_cons_zero, List.set_cons_succ]
    refine AnyK.take (oi := { dst := _, op := _, type := _, pos := _, after := _, guard := _ }) 1 ?_ rfl (by kernel_rfl) (fun _ _ _ h => h) (Or.inl ⟨by rfl, ?_⟩) rfl ?_
    rotate_left
    · (intro w' hS; subst hS; go_simp; with_reducible rfl)
    simp only [Act.put, List.setIfInBounds_toArray, List.set_cons_zero, List.set_cons_succ]
    refine AnyK.take (oi := { dst := _, op := _, type := _, pos := _, after := _, guard := _ }) 2 ?_ rfl (by kernel_rfl) (fun _ _ _ h => h) (Or.inl ⟨by rfl, ?_⟩) rfl ?_
    rotate_left
    · (intro w' hS; subst hS; go_simp; with_reducible rfl)
    simp only [Act.put, List.setIfInBounds_toArray, List.set_cons_zero, List.set_cons_succ]
    refine AnyK.take (oi := { dst := _, op := _, type := _, pos := _, after := _, guard := _ }) 3 ?_ rfl (by kernel_rfl) (fun _ _ _ h => h) (Or.inl ⟨by rfl, ?_⟩) rfl ?_
    rotate_left
    · (intro w' hS; subst hS; go_simp; with_reducible rfl)
    simp only [Act.put, List.setIfInBounds_toArray, List.set_cons_zero, List.set_cons_succ]
    refine AnyK.take (oi := { dst := _, op := _, type := _, pos := _, after := _, guard := _ }) 4 ?_ rfl (by kernel_rfl) (fun _ _ _ h => h) (Or.inl ⟨by rfl, ?_⟩) rfl ?_
    rotate_left
    · (intro w' hS; subst hS; go_simp; with_reducible rfl)
    simp only [Act.put, List.setIfInBounds_toArray, List.set_cons_zero, List.set_cons_succ]
    refine AnyK.take (oi := { dst := _, op := _, type := _, pos := _, after := _, guard := _ }) 6 ?_ rfl (by kernel_rfl) (fun _ _ _ h => h) (Or.inl ⟨by rfl, ?_⟩) rfl ?_
    rotate_left
    · (intro w' hS; subst hS; go_simp; with_reducible rfl)
    simp only [Act.put, List.setIfInBounds_toArray, List.set_cons_zero, List.set_cons_succ]
    refine AnyK.two 5 7 (by kernel_rfl) rfl rfl (fun KK hK => ?_) (fun KK hK => ?_)
    · go_simp
      refine hK _ _ rfl ?_
      clear hK
      refine AnyK.one 7 (by kernel_rfl) rfl (fun KK hK => ?_)
      go_simp
      refine hlb.mono ?_
      rintro e V ⟨rfl, rfl⟩
      refine hK _ _ rfl ?_
      clear hK
      refine AnyK.take (oi := { dst := _, op := _, type := _, pos := _, after := _, guard := _ }) 8 ?_ rfl (by kernel_rfl) (fun _ _ _ h => h) (Or.inl ⟨by rfl, ?_⟩) rfl ?_
      rotate_left
      · (intro w' hS; subst hS; go_simp; with_reducible rfl)
      simp only [Act.put, List.setIfInBounds_toArray, List.set_cons_zero, List.set_cons_succ]
      refine AnyK.take (oi := { dst := _, op := _, type := _, pos := _, after := _, guard := _ }) 9 ?_ rfl (by kernel_rfl) (fun _ _ _ h => h) (Or.inl ⟨by rfl, ?_⟩) rfl ?_
      rotate_left
      · (intro w' hS; subst hS; go_simp; with_reducible rfl)
      simp only [Act.put, List.setIfInBounds_toArray, List.set_cons_zero, List.set_cons_succ]
      refine AnyK.take (oi := { dst := _, op := _, type := _, pos := _, after := _, guard := _ }) 10 ?_ rfl (by kernel_rfl) (fun _ _ _ h => h) (Or.inl ⟨by rfl, ?_⟩) rfl ?_
      rotate_left
      · (intro w' hS; subst hS; go_simp; with_reducible rfl)
      simp only [Act.put, List.setIfInBounds_toArray, List.set_cons_zero, List.set_cons_succ]
      refine AnyK.late 11 (by kernel_rfl) (by kernel_rfl) rfl (fun KK hK => ?_)
      go_simp
      refine hK _ _ ?_
      clear hK
      refine AnyK.done (by kernel_rfl) ?_ _
      have hst := HO3.out.stored kk (.int .u8 c'.toNat)
      have hcs : (byteCells bs).set kk (.int .u8 c'.toNat) = byteCells (bs.set kk c') := by simp [byteCells, List.map_set]
      rw [hcs] at hst
      have hby5 := bytes_of_own hst.1
      have hg3 := (own_type HO3.out (k := g3) rfl).1
      have hgr5 := hst.2
      have hne5 := set_ne (c := c') hb hc'
      obtain ⟨D, hD⟩ : ∃ D, bs.set kk c' = D := ⟨_, rfl⟩
      have HLD := Lib.hid (show D.length = n by rw [← hD, List.length_set, HN.out])
      rw [hD] at hby5 hne5
      clear hst hcs hlb hfz hcell hpick hxor hb hc'
      obtain ⟨V5, hV5⟩ : ∃ V5, (V4.setCell ⟨g3, kk, none⟩ (.int .u8 c'.toNat)).drew = V5 := ⟨_, rfl⟩
      have hk5 : ∀ k, k < V2.heap.size → V5.heap[k]? = V4.heap[k]? := by
        intro k hk
        rw [← hV5]
        exact hgr5.block k (by omega) (by simp; omega)
      have hs5 : V5.heap.size = V4.heap.size := by rw [← hV5]; simp
      have HB5 := Lib.hid (show Below W.heap.size W V5 from ⟨by rw [← hV5]; exact hgr5.os.trans HB3.out.os, by rw [← hV5]; exact hgr5.tape.trans HB3.out.tape, by rw [← hV5]; exact hgr5.output.trans HB3.out.output, by rw [hs5]; exact HB3.out.size, fun k hk => (hk5 k (by have := HB2.out.size; omega)).trans (HB3.out.block k hk)⟩)
      have HX5 := Lib.hid ((hk5 W.heap.size (heap_lt HX2.out)).trans HX3.out)
      have HBY5 := Lib.hid (show Bytes V5 V5.heap.size (some ⟨g3, 0, none⟩) n cap3 D by
        have := hby5.keep (W' := V5) (fun k _ => by rw [← hV5]; rfl)
        rw [← hV5]; rw [← hV5] at this; exact this)
      rw [hV5]
      clear hk5 hs5 hgr5 hV5 hby5
      have hrd := read_any V5 D (some ⟨g3, 0, none⟩) n cap3 HBY5.out (by rw [HLD.out]; omega)
      go_wp2_with (go_at_call 17; refine hrd.mono ?_)
      rintro e V6 ha hb6
      have HB6 := Lib.hid (HB5.out.trans (hb6.mono HB5.out.size))
      have HX6 := Lib.hid ((hb6.block _ (heap_lt HX5.out)).trans HX5.out)
      have HBY6 := Lib.hid ((HBY5.out.keep (fun k hk => hb6.block k hk)).lim hb6.size)
      clear hrd hb6
      rcases ha with ⟨hok, vs2, rfl, hI2⟩ | ⟨_, gf, rfl, hgf⟩
      · have hrl := read_lay hok
        have hny := read_ne HLY.out hok hne5
        obtain ⟨y, hyy⟩ : ∃ y, (readSt D).1 = y := ⟨_, rfl⟩
        rw [hyy] at hI2 hrl hny
        have HNY := Lib.hid hny
        have hI3 := shImg.wide (S' := fun k => k < V6.heap.size) (fun k hk => hk.2) hI2
        clear hI2 hok hyy hny hne5
        obtain ⟨sa0, sl0, sc0, sa1, sl1, sc1, sa2, sl2, sc2, sa3, sl3, sc3, sa5, sl5, sc5, sa6, sl6, sc6, sa7, sl7, sc7, sa8, sl8, sc8, sa9, sl9, sc9, rfl, -⟩ := img_is.1 hI3
        have HK6 := Lib.hid (heap_alloc_new V6 (.cells #[.slice none 0 0, .slice none 0 0, .slice none 0 0, .slice none 0 0, .string ⟨#[]⟩, .slice none 0 0, .slice none 0 0, .slice none 0 0, .slice none 0 0, .slice none 0 0, .int .i64 0, .int .i64 0] 29))
        have HB7 := Lib.hid (below_box HB6.out HB6.out.size #[.slice none 0 0, .slice none 0 0, .slice none 0 0, .slice none 0 0, .string ⟨#[]⟩, .slice none 0 0, .slice none 0 0, .slice none 0 0, .slice none 0 0, .slice none 0 0, .int .i64 0, .int .i64 0] #[.slice sa0 sl0 sc0, .slice sa1 sl1 sc1, .slice sa2 sl2 sc2, .slice sa3 sl3 sc3, .string y.globals, .slice sa5 sl5 sc5, .slice sa6 sl6 sc6, .slice sa7 sl7 sc7, .slice sa8 sl8 sc8, .slice sa9 sl9 sc9, .int .i64 y.d, .int .i64 y.w])
        have HS7 := Lib.hid (box_new V6 #[.slice none 0 0, .slice none 0 0, .slice none 0 0, .slice none 0 0, .string ⟨#[]⟩, .slice none 0 0, .slice none 0 0, .slice none 0 0, .slice none 0 0, .slice none 0 0, .int .i64 0, .int .i64 0] #[.slice sa0 sl0 sc0, .slice sa1 sl1 sc1, .slice sa2 sl2 sc2, .slice sa3 sl3 sc3, .string y.globals, .slice sa5 sl5 sc5, .slice sa6 sl6 sc6, .slice sa7 sl7 sc7, .slice sa8 sl8 sc8, .slice sa9 sl9 sc9, .int .i64 y.d, .int .i64 y.w])
        have HX7 := Lib.hid (box_old HX6.out #[.slice none 0 0, .slice none 0 0, .slice none 0 0, .slice none 0 0, .string ⟨#[]⟩, .slice none 0 0, .slice none 0 0, .slice none 0 0, .slice none 0 0, .slice none 0 0, .int .i64 0, .int .i64 0] #[.slice sa0 sl0 sc0, .slice sa1 sl1 sc1, .slice sa2 sl2 sc2, .slice sa3 sl3 sc3, .string y.globals, .slice sa5 sl5 sc5, .slice sa6 sl6 sc6, .slice sa7 sl7 sc7, .slice sa8 sl8 sc8, .slice sa9 sl9 sc9, .int .i64 y.d, .int .i64 y.w])
        have hz7 := box_size V6 #[.slice none 0 0, .slice none 0 0, .slice none 0 0, .slice none 0 0, .string ⟨#[]⟩, .slice none 0 0, .slice none 0 0, .slice none 0 0, .slice none 0 0, .slice none 0 0, .int .i64 0, .int .i64 0] #[.slice sa0 sl0 sc0, .slice sa1 sl1 sc1, .slice sa2 sl2 sc2, .slice sa3 sl3 sc3, .string y.globals, .slice sa5 sl5 sc5, .slice sa6 sl6 sc6, .slice sa7 sl7 sc7, .slice sa8 sl8 sc8, .slice sa9 sl9 sc9, .int .i64 y.d, .int .i64 y.w]
        have HBY7 := Lib.hid (HBY6.out.keep (fun k hk => box_keep V6 #[.slice none 0 0, .slice none 0 0, .slice none 0 0, .slice none 0 0, .string ⟨#[]⟩, .slice none 0 0, .slice none 0 0, .slice none 0 0, .slice none 0 0, .slice none 0 0, .int .i64 0, .int .i64 0] #[.slice sa0 sl0 sc0, .slice sa1 sl1 sc1, .slice sa2 sl2 sc2, .slice sa3 sl3 sc3, .string y.globals, .slice sa5 sl5 sc5, .slice sa6 sl6 sc6, .slice sa7 sl7 sc7, .slice sa8 sl8 sc8, .slice sa9 sl9 sc9, .int .i64 y.d, .int .i64 y.w] k hk))
        have hI7 := shImg.wide (S' := fun k => k < ((V6.alloc (.cells #[.slice none 0 0, .slice none 0 0, .slice none 0 0, .slice none 0 0, .string ⟨#[]⟩, .slice none 0 0, .slice none 0 0, .slice none 0 0, .slice none 0 0, .slice none 0 0, .int .i64 0, .int .i64 0] 29)).setRow V6.heap.size #[.slice sa0 sl0 sc0, .slice sa1 sl1 sc1, .slice sa2 sl2 sc2, .slice sa3 sl3 sc3, .string y.globals, .slice sa5 sl5 sc5, .slice sa6 sl6 sc6, .slice sa7 sl7 sc7, .slice sa8 sl8 sc8, .slice sa9 sl9 sc9, .int .i64 y.d, .int .i64 y.w]).heap.size) (fun k hk => by rw [hz7]; omega) (shImg.keep (fun k hk => box_keep V6 #[.slice none 0 0, .slice none 0 0, .slice none 0 0, .slice none 0 0, .string ⟨#[]⟩, .slice none 0 0, .slice none 0 0, .slice none 0 0, .slice none 0 0, .slice none 0 0, .int .i64 0, .int .i64 0] #[.slice sa0 sl0 sc0, .slice sa1 sl1 sc1, .slice sa2 sl2 sc2, .slice sa3 sl3 sc3, .string y.globals, .slice sa5 sl5 sc5, .slice sa6 sl6 sc6, .slice sa7 sl7 sc7, .slice sa8 sl8 sc8, .slice sa9 sl9 sc9, .int .i64 y.d, .int .i64 y.w] k hk) hI3)
        have HI7 := Lib.hid hI7
        have hly2 := lay_any _ _ y hI7
        have hone2 : (#[.slice sa0 sl0 sc0, .slice sa1 sl1 sc1, .slice sa2 sl2 sc2, .slice sa3 sl3 sc3, .string y.globals, .slice sa5 sl5 sc5, .slice sa6 sl6 sc6, .slice sa7 sl7 sc7, .slice sa8 sl8 sc8, .slice sa9 sl9 sc9, .int .i64 y.d, .int .i64 y.w] : Array Value).all (·.oneCell') = true := by simp [Value.oneCell']
        clear hI3 hI7
        go_wp2_with (first | (refine wpList_store_row rfl 29 (.tmp 11) (.tmp 49) rfl V6.heap.size #[.slice sa0 sl0 sc0, .slice sa1 sl1 sc1, .slice sa2 sl2 sc2, .slice sa3 sl3 sc3, .string y.globals, .slice sa5 sl5 sc5, .slice sa6 sl6 sc6, .slice sa7 sl7 sc7, .slice sa8 sl8 sc8, .slice sa9 sl9 sc9, .int .i64 y.d, .int .i64 y.w] rfl rfl 29 #[.slice none 0 0, .slice none 0 0, .slice none 0 0, .slice none 0 0, .string ⟨#[]⟩, .slice none 0 0, .slice none 0 0, .slice none 0 0, .slice none 0 0, .slice none 0 0, .int .i64 0, .int .i64 0] HK6.out size29 rfl hone2 ?_) | (refine wpList_load_row rfl 29 (.tmp 11) rfl V6.heap.size rfl 29 #[.slice sa0 sl0 sc0, .slice sa1 sl1 sc1, .slice sa2 sl2 sc2, .slice sa3 sl3 sc3, .string y.globals, .slice sa5 sl5 sc5, .slice sa6 sl6 sc6, .slice sa7 sl7 sc7, .slice sa8 sl8 sc8, .slice sa9 sl9 sc9, .int .i64 y.d, .int .i64 y.w] (0, 0) _ HS7.out Tryz.underlying29 rfl size29 ?_) | (go_at_call 9; refine hly2.mono ?_))
        rintro e V8 ⟨hla, hb8⟩
        have HB8 := Lib.hid (HB7.out.trans (hb8.mono HB7.out.size))
        have HS8 := Lib.hid ((hb8.block _ (by omega)).trans HS7.out)
        have HX8 := Lib.hid ((hb8.block _ (heap_lt HX7.out)).trans HX7.out)
        have HI8 := Lib.hid (shImg.keep (W' := V8) (fun k hk => hb8.block k hk) HI7.out)
        have HBY8 := Lib.hid (HBY7.out.keep (fun k hk => hb8.block k (by omega)))
        have hs78 := hb8.size
        clear hly2 hb8 hone2
        rcases hla with ⟨hful, _⟩ | ⟨_, g2, cap2, rfl, hown2⟩
        · rw [hrl] at hful; cases hful
        rw [hrl] at hown2 ⊢
        simp only [HLD.out] at hown2 ⊢
        have heq := eq_bytes _ _ V8 _ _ _ _ _ _ D (bytes_of_own hown2) HBY8.out
        clear hown2 hrl
        go_wp2_with (go_at_call 11; refine heq.mono ?_)
        rintro e V9 ⟨rfl, m, hV9⟩
        have HB9 := Lib.hid (show Below W.heap.size W V9 by rw [hV9]; exact below_drew HB8.out m)
        have HS9 := Lib.hid (show V9.heap[V6.heap.size]? = some (.cells #[.slice sa0 sl0 sc0, .slice sa1 sl1 sc1, .slice sa2 sl2 sc2, .slice sa3 sl3 sc3, .string y.globals, .slice sa5 sl5 sc5, .slice sa6 sl6 sc6, .slice sa7 sl7 sc7, .slice sa8 sl8 sc8, .slice sa9 sl9 sc9, .int .i64 y.d, .int .i64 y.w] 29 (0, 0)) by rw [hV9]; exact HS8.out)
        have HX9 := Lib.hid (show V9.heap[W.heap.size]? = some (.cells #[.slice a0 l0 c0, .slice a1 l1 c1, .slice a2 l2 c2, .slice a3 l3 c3, .string x.globals, .slice a5 l5 c5, .slice a6 l6 c6, .slice a7 l7 c7, .slice a8 l8 c8, .slice a9 l9 c9, .int .i64 x.d, .int .i64 x.w] 29 (0, 0)) by rw [hV9]; exact HX8.out)
        have hlm : ((V6.alloc (.cells #[.slice none 0 0, .slice none 0 0, .slice none 0 0, .slice none 0 0, .string ⟨#[]⟩, .slice none 0 0, .slice none 0 0, .slice none 0 0, .slice none 0 0, .slice none 0 0, .int .i64 0, .int .i64 0] 29)).setRow V6.heap.size #[.slice sa0 sl0 sc0, .slice sa1 sl1 sc1, .slice sa2 sl2 sc2, .slice sa3 sl3 sc3, .string y.globals, .slice sa5 sl5 sc5, .slice sa6 sl6 sc6, .slice sa7 sl7 sc7, .slice sa8 sl8 sc8, .slice sa9 sl9 sc9, .int .i64 y.d, .int .i64 y.w]).heap.size ≤ V9.heap.size := by rw [hV9]; exact hs78
        have hIy := shImg.keep (W' := V9) (fun k _ => by rw [hV9]; rfl) HI8.out
        have hIx := shImg.wide (S' := fun k => k < ((V6.alloc (.cells #[.slice none 0 0, .slice none 0 0, .slice none 0 0, .slice none 0 0, .string ⟨#[]⟩, .slice none 0 0, .slice none 0 0, .slice none 0 0, .slice none 0 0, .slice none 0 0, .int .i64 0, .int .i64 0] 29)).setRow V6.heap.size #[.slice sa0 sl0 sc0, .slice sa1 sl1 sc1, .slice sa2 sl2 sc2, .slice sa3 sl3 sc3, .string y.globals, .slice sa5 sl5 sc5, .slice sa6 sl6 sc6, .slice sa7 sl7 sc7, .slice sa8 sl8 sc8, .slice sa9 sl9 sc9, .int .i64 y.d, .int .i64 y.w]).heap.size) (fun k hk => by rw [hz7]; have := HB6.out.size; omega) (shImg.keep (W' := V9) (fun k hk => HB9.out.block k hk) H.out)
        have hni := ne_image _ V9 _ _ y x hIy hIx hlm HNY.out
        clear heq hV9 hIx hIy hlm
        have q0 : V9.cell? ⟨V6.heap.size, 0, none⟩ = some (.slice sa0 sl0 sc0) := by rw [Lib.cell_of_heap HS9.out]; rfl
        have q1 : V9.cell? ⟨V6.heap.size, 1, none⟩ = some (.slice sa1 sl1 sc1) := by rw [Lib.cell_of_heap HS9.out]; rfl
        have q2 : V9.cell? ⟨V6.heap.size, 2, none⟩ = some (.slice sa2 sl2 sc2) := by rw [Lib.cell_of_heap HS9.out]; rfl
        have q3 : V9.cell? ⟨V6.heap.size, 3, none⟩ = some (.slice sa3 sl3 sc3) := by rw [Lib.cell_of_heap HS9.out]; rfl
        have q4 : V9.cell? ⟨V6.heap.size, 4, none⟩ = some (.string y.globals) := by rw [Lib.cell_of_heap HS9.out]; rfl
        have q5 : V9.cell? ⟨V6.heap.size, 5, none⟩ = some (.slice sa5 sl5 sc5) := by rw [Lib.cell_of_heap HS9.out]; rfl
        have q6 : V9.cell? ⟨V6.heap.size, 6, none⟩ = some (.slice sa6 sl6 sc6) := by rw [Lib.cell_of_heap HS9.out]; rfl
        have q7 : V9.cell? ⟨V6.heap.size, 7, none⟩ = some (.slice sa7 sl7 sc7) := by rw [Lib.cell_of_heap HS9.out]; rfl
        have q8 : V9.cell? ⟨V6.heap.size, 8, none⟩ = some (.slice sa8 sl8 sc8) := by rw [Lib.cell_of_heap HS9.out]; rfl
        have q9 : V9.cell? ⟨V6.heap.size, 9, none⟩ = some (.slice sa9 sl9 sc9) := by rw [Lib.cell_of_heap HS9.out]; rfl
        have q10 : V9.cell? ⟨V6.heap.size, 10, none⟩ = some (.int .i64 y.d) := by rw [Lib.cell_of_heap HS9.out]; rfl
        have q11 : V9.cell? ⟨V6.heap.size, 11, none⟩ = some (.int .i64 y.w) := by rw [Lib.cell_of_heap HS9.out]; rfl
        have p0 : V9.cell? ⟨W.heap.size, 0, none⟩ = some (.slice a0 l0 c0) := by rw [Lib.cell_of_heap HX9.out]; rfl
        have p1 : V9.cell? ⟨W.heap.size, 1, none⟩ = some (.slice a1 l1 c1) := by rw [Lib.cell_of_heap HX9.out]; rfl
        have p2 : V9.cell? ⟨W.heap.size, 2, none⟩ = some (.slice a2 l2 c2) := by rw [Lib.cell_of_heap HX9.out]; rfl
        have p3 : V9.cell? ⟨W.heap.size, 3, none⟩ = some (.slice a3 l3 c3) := by rw [Lib.cell_of_heap HX9.out]; rfl
        have p4 : V9.cell? ⟨W.heap.size, 4, none⟩ = some (.string x.globals) := by rw [Lib.cell_of_heap HX9.out]; rfl
        have p5 : V9.cell? ⟨W.heap.size, 5, none⟩ = some (.slice a5 l5 c5) := by rw [Lib.cell_of_heap HX9.out]; rfl
        have p6 : V9.cell? ⟨W.heap.size, 6, none⟩ = some (.slice a6 l6 c6) := by rw [Lib.cell_of_heap HX9.out]; rfl
        have p7 : V9.cell? ⟨W.heap.size, 7, none⟩ = some (.slice a7 l7 c7) := by rw [Lib.cell_of_heap HX9.out]; rfl
        have p8 : V9.cell? ⟨W.heap.size, 8, none⟩ = some (.slice a8 l8 c8) := by rw [Lib.cell_of_heap HX9.out]; rfl
        have p9 : V9.cell? ⟨W.heap.size, 9, none⟩ = some (.slice a9 l9 c9) := by rw [Lib.cell_of_heap HX9.out]; rfl
        have p10 : V9.cell? ⟨W.heap.size, 10, none⟩ = some (.int .i64 x.d) := by rw [Lib.cell_of_heap HX9.out]; rfl
        have p11 : V9.cell? ⟨W.heap.size, 11, none⟩ = some (.int .i64 x.w) := by rw [Lib.cell_of_heap HX9.out]; rfl
        go_wp2_with (go_at_call 14; refine hni.mono ?_)
        rintro e V10 ⟨rfl, hb10⟩
        have HB10 := Lib.hid (HB9.out.trans (hb10.mono HB9.out.size))
        clear hni hb10
        clear q0 q1 q2 q3 q4 q5 q6 q7 q8 q9 q10 q11
        clear p0 p1 p2 p3 p4 p5 p6 p7 p8 p9 p10 p11
        go_wp2_with (go_at_call 8; refine (awake_any V10 (HE.out.keep HB10.out hs0)).mono ?_)
        rintro e V11 ⟨rfl, hbz⟩
        have HBZ := Lib.hid (HB10.out.trans (hbz.mono HB10.out.size))
        clear hbz
        go_wp2_with fail
        go_returns
        exact ⟨rfl, HBZ.out⟩
      · have HK6 := Lib.hid (heap_alloc_new V6 (.cells #[.slice none 0 0, .slice none 0 0, .slice none 0 0, .slice none 0 0, .string ⟨#[]⟩, .slice none 0 0, .slice none 0 0, .slice none 0 0, .slice none 0 0, .slice none 0 0, .int .i64 0, .int .i64 0] 29))
        have HB7 := Lib.hid (below_box HB6.out HB6.out.size #[.slice none 0 0, .slice none 0 0, .slice none 0 0, .slice none 0 0, .string ⟨#[]⟩, .slice none 0 0, .slice none 0 0, .slice none 0 0, .slice none 0 0, .slice none 0 0, .int .i64 0, .int .i64 0] #[.slice none 0 0, .slice none 0 0, .slice none 0 0, .slice none 0 0, .string ⟨#[]⟩, .slice none 0 0, .slice none 0 0, .slice none 0 0, .slice none 0 0, .slice none 0 0, .int .i64 0, .int .i64 0])
        have HS7 := Lib.hid (box_new V6 #[.slice none 0 0, .slice none 0 0, .slice none 0 0, .slice none 0 0, .string ⟨#[]⟩, .slice none 0 0, .slice none 0 0, .slice none 0 0, .slice none 0 0, .slice none 0 0, .int .i64 0, .int .i64 0] #[.slice none 0 0, .slice none 0 0, .slice none 0 0, .slice none 0 0, .string ⟨#[]⟩, .slice none 0 0, .slice none 0 0, .slice none 0 0, .slice none 0 0, .slice none 0 0, .int .i64 0, .int .i64 0])
        have hgf2 := box_old hgf #[.slice none 0 0, .slice none 0 0, .slice none 0 0, .slice none 0 0, .string ⟨#[]⟩, .slice none 0 0, .slice none 0 0, .slice none 0 0, .slice none 0 0, .slice none 0 0, .int .i64 0, .int .i64 0] #[.slice none 0 0, .slice none 0 0, .slice none 0 0, .slice none 0 0, .string ⟨#[]⟩, .slice none 0 0, .slice none 0 0, .slice none 0 0, .slice none 0 0, .slice none 0 0, .int .i64 0, .int .i64 0]
        have hcd := code_err 19 gf _ (HE.out.keep HB7.out hs0) hgf2
        clear hgf hgf2 hne5
        go_wp2_with (first | (refine wpList_store_row rfl 29 (.tmp 11) (.tmp 49) rfl V6.heap.size #[.slice none 0 0, .slice none 0 0, .slice none 0 0, .slice none 0 0, .string ⟨#[]⟩, .slice none 0 0, .slice none 0 0, .slice none 0 0, .slice none 0 0, .slice none 0 0, .int .i64 0, .int .i64 0] rfl rfl 29 #[.slice none 0 0, .slice none 0 0, .slice none 0 0, .slice none 0 0, .string ⟨#[]⟩, .slice none 0 0, .slice none 0 0, .slice none 0 0, .slice none 0 0, .slice none 0 0, .int .i64 0, .int .i64 0] HK6.out size29 rfl zero_one ?_) | (go_at_call 12; refine hcd.mono ?_))
        rintro e V8 ⟨rfl, hb8⟩
        have HB8 := Lib.hid (HB7.out.trans (hb8.mono HB7.out.size))
        have HS8 := Lib.hid ((hb8.block _ (heap_lt HS7.out)).trans HS7.out)
        have heq := eq_image 0 V8 _ _ imgZ (isZ _ _) (isZ _ _) (Nat.zero_le _)
        clear hcd hb8
        have q0 : V8.cell? ⟨V6.heap.size, 0, none⟩ = some (.slice none 0 0) := by rw [Lib.cell_of_heap HS8.out]; rfl
        have q1 : V8.cell? ⟨V6.heap.size, 1, none⟩ = some (.slice none 0 0) := by rw [Lib.cell_of_heap HS8.out]; rfl
        have q2 : V8.cell? ⟨V6.heap.size, 2, none⟩ = some (.slice none 0 0) := by rw [Lib.cell_of_heap HS8.out]; rfl
        have q3 : V8.cell? ⟨V6.heap.size, 3, none⟩ = some (.slice none 0 0) := by rw [Lib.cell_of_heap HS8.out]; rfl
        have q4 : V8.cell? ⟨V6.heap.size, 4, none⟩ = some (.string ⟨#[]⟩) := by rw [Lib.cell_of_heap HS8.out]; rfl
        have q5 : V8.cell? ⟨V6.heap.size, 5, none⟩ = some (.slice none 0 0) := by rw [Lib.cell_of_heap HS8.out]; rfl
        have q6 : V8.cell? ⟨V6.heap.size, 6, none⟩ = some (.slice none 0 0) := by rw [Lib.cell_of_heap HS8.out]; rfl
        have q7 : V8.cell? ⟨V6.heap.size, 7, none⟩ = some (.slice none 0 0) := by rw [Lib.cell_of_heap HS8.out]; rfl
        have q8 : V8.cell? ⟨V6.heap.size, 8, none⟩ = some (.slice none 0 0) := by rw [Lib.cell_of_heap HS8.out]; rfl
        have q9 : V8.cell? ⟨V6.heap.size, 9, none⟩ = some (.slice none 0 0) := by rw [Lib.cell_of_heap HS8.out]; rfl
        have q10 : V8.cell? ⟨V6.heap.size, 10, none⟩ = some (.int .i64 0) := by rw [Lib.cell_of_heap HS8.out]; rfl
        have q11 : V8.cell? ⟨V6.heap.size, 11, none⟩ = some (.int .i64 0) := by rw [Lib.cell_of_heap HS8.out]; rfl
        go_wp2_with (go_at_call 14; refine heq.mono ?_)
        rintro e V9 ⟨rfl, hb9⟩
        have HB9 := Lib.hid (HB8.out.trans (hb9.mono HB8.out.size))
        clear heq hb9
        clear q0 q1 q2 q3 q4 q5 q6 q7 q8 q9 q10 q11
        go_wp2_with (go_at_call 8; refine (awake_any V9 (HE.out.keep HB9.out hs0)).mono ?_)
        rintro e V10 ⟨rfl, hbz⟩
        have HBZ := Lib.hid (HB9.out.trans (hbz.mono HB9.out.size))
        clear hbz
        go_wp2_with fail
        go_returns
        exact ⟨rfl, HBZ.out⟩
    · go_simp
      refine hlb.mono ?_
      rintro e V ⟨rfl, rfl⟩
      refine hK _ _ rfl ?_
      clear hK
      refine AnyK.take (oi := { dst := _, op := _, type := _, pos := _, after := _, guard := _ }) 5 ?_ rfl (by kernel_rfl) (fun _ _ _ h => h) (Or.inl ⟨by rfl, ?_⟩) rfl ?_
      rotate_left
      · (intro w' hS; subst hS; go_simp; with_reducible rfl)
      simp only [Act.put, List.setIfInBounds_toArray, List.set_cons_zero, List.set_cons_succ]
      refine AnyK.take (oi := { dst := _, op := _, type := _, pos := _, after := _, guard := _ }) 8 ?_ rfl (by kernel_rfl) (fun _ _ _ h => h) (Or.inl ⟨by rfl, ?_⟩) rfl ?_
      rotate_left
      · (intro w' hS; subst hS; go_simp; with_reducible rfl)
      simp only [Act.put, List.setIfInBounds_toArray, List.set_cons_zero, List.set_cons_succ]
      refine AnyK.take (oi := { dst := _, op := _, type := _, pos := _, after := _, guard := _ }) 9 ?_ rfl (by kernel_rfl) (fun _ _ _ h => h) (Or.inl ⟨by rfl, ?_⟩) rfl ?_
      rotate_left
      · (intro w' hS; subst hS; go_simp; with_reducible rfl)
      simp only [Act.put, List.setIfInBounds_toArray, List.set_cons_zero, List.set_cons_succ]
      refine AnyK.take (oi := { dst := _, op := _, type := _, pos := _, after := _, guard := _ }) 10 ?_ rfl (by kernel_rfl) (fun _ _ _ h => h) (Or.inl ⟨by rfl, ?_⟩) rfl ?_
      rotate_left
      · (intro w' hS; subst hS; go_simp; with_reducible rfl)
      simp only [Act.put, List.setIfInBounds_toArray, List.set_cons_zero, List.set_cons_succ]
      refine AnyK.late 11 (by kernel_rfl) (by kernel_rfl) rfl (fun KK hK => ?_)
      go_simp
      refine hK _ _ ?_
      clear hK
      refine AnyK.done (by kernel_rfl) ?_ _
      have hst := HO3.out.stored kk (.int .u8 c'.toNat)
      have hcs : (byteCells bs).set kk (.int .u8 c'.toNat) = byteCells (bs.set kk c') := by simp [byteCells, List.map_set]
      rw [hcs] at hst
      have hby5 := bytes_of_own hst.1
      have hg3 := (own_type HO3.out (k := g3) rfl).1
      have hgr5 := hst.2
      have hne5 := set_ne (c := c') hb hc'
      obtain ⟨D, hD⟩ : ∃ D, bs.set kk c' = D := ⟨_, rfl⟩
      have HLD := Lib.hid (show D.length = n by rw [← hD, List.length_set, HN.out])
      rw [hD] at hby5 hne5
      clear hst hcs hlb hfz hcell hpick hxor hb hc'
      obtain ⟨V5, hV5⟩ : ∃ V5, (V4.setCell ⟨g3, kk, none⟩ (.int .u8 c'.toNat)).drew = V5 := ⟨_, rfl⟩
      have hk5 : ∀ k, k < V2.heap.size → V5.heap[k]? = V4.heap[k]? := by
        intro k hk
        rw [← hV5]
        exact hgr5.block k (by omega) (by simp; omega)
      have hs5 : V5.heap.size = V4.heap.size := by rw [← hV5]; simp
      have HB5 := Lib.hid (show Below W.heap.size W V5 from ⟨by rw [← hV5]; exact hgr5.os.trans HB3.out.os, by rw [← hV5]; exact hgr5.tape.trans HB3.out.tape, by rw [← hV5]; exact hgr5.output.trans HB3.out.output, by rw [hs5]; exact HB3.out.size, fun k hk => (hk5 k (by have := HB2.out.size; omega)).trans (HB3.out.block k hk)⟩)
      have HX5 := Lib.hid ((hk5 W.heap.size (heap_lt HX2.out)).trans HX3.out)
      have HBY5 := Lib.hid (show Bytes V5 V5.heap.size (some ⟨g3, 0, none⟩) n cap3 D by
        have := hby5.keep (W' := V5) (fun k _ => by rw [← hV5]; rfl)
        rw [← hV5]; rw [← hV5] at this; exact this)
      rw [hV5]
      clear hk5 hs5 hgr5 hV5 hby5
      have hrd := read_any V5 D (some ⟨g3, 0, none⟩) n cap3 HBY5.out (by rw [HLD.out]; omega)
      go_wp2_with (go_at_call 17; refine hrd.mono ?_)
      rintro e V6 ha hb6
      have HB6 := Lib.hid (HB5.out.trans (hb6.mono HB5.out.size))
      have HX6 := Lib.hid ((hb6.block _ (heap_lt HX5.out)).trans HX5.out)
      have HBY6 := Lib.hid ((HBY5.out.keep (fun k hk => hb6.block k hk)).lim hb6.size)
      clear hrd hb6
      rcases ha with ⟨hok, vs2, rfl, hI2⟩ | ⟨_, gf, rfl, hgf⟩
      · have hrl := read_lay hok
        have hny := read_ne HLY.out hok hne5
        obtain ⟨y, hyy⟩ : ∃ y, (readSt D).1 = y := ⟨_, rfl⟩
        rw [hyy] at hI2 hrl hny
        have HNY := Lib.hid hny
        have hI3 := shImg.wide (S' := fun k => k < V6.heap.size) (fun k hk => hk.2) hI2
        clear hI2 hok hyy hny hne5
        obtain ⟨sa0, sl0, sc0, sa1, sl1, sc1, sa2, sl2, sc2, sa3, sl3, sc3, sa5, sl5, sc5, sa6, sl6, sc6, sa7, sl7, sc7, sa8, sl8, sc8, sa9, sl9, sc9, rfl, -⟩ := img_is.1 hI3
        have HK6 := Lib.hid (heap_alloc_new V6 (.cells #[.slice none 0 0, .slice none 0 0, .slice none 0 0, .slice none 0 0, .string ⟨#[]⟩, .slice none 0 0, .slice none 0 0, .slice none 0 0, .slice none 0 0, .slice none 0 0, .int .i64 0, .int .i64 0] 29))
        have HB7 := Lib.hid (below_box HB6.out HB6.out.size #[.slice none 0 0, .slice none 0 0, .slice none 0 0, .slice none 0 0, .string ⟨#[]⟩, .slice none 0 0, .slice none 0 0, .slice none 0 0, .slice none 0 0, .slice none 0 0, .int .i64 0, .int .i64 0] #[.slice sa0 sl0 sc0, .slice sa1 sl1 sc1, .slice sa2 sl2 sc2, .slice sa3 sl3 sc3, .string y.globals, .slice sa5 sl5 sc5, .slice sa6 sl6 sc6, .slice sa7 sl7 sc7, .slice sa8 sl8 sc8, .slice sa9 sl9 sc9, .int .i64 y.d, .int .i64 y.w])
        have HS7 := Lib.hid (box_new V6 #[.slice none 0 0, .slice none 0 0, .slice none 0 0, .slice none 0 0, .string ⟨#[]⟩, .slice none 0 0, .slice none 0 0, .slice none 0 0, .slice none 0 0, .slice none 0 0, .int .i64 0, .int .i64 0] #[.slice sa0 sl0 sc0, .slice sa1 sl1 sc1, .slice sa2 sl2 sc2, .slice sa3 sl3 sc3, .string y.globals, .slice sa5 sl5 sc5, .slice sa6 sl6 sc6, .slice sa7 sl7 sc7, .slice sa8 sl8 sc8, .slice sa9 sl9 sc9, .int .i64 y.d, .int .i64 y.w])
        have HX7 := Lib.hid (box_old HX6.out #[.slice none 0 0, .slice none 0 0, .slice none 0 0, .slice none 0 0, .string ⟨#[]⟩, .slice none 0 0, .slice none 0 0, .slice none 0 0, .slice none 0 0, .slice none 0 0, .int .i64 0, .int .i64 0] #[.slice sa0 sl0 sc0, .slice sa1 sl1 sc1, .slice sa2 sl2 sc2, .slice sa3 sl3 sc3, .string y.globals, .slice sa5 sl5 sc5, .slice sa6 sl6 sc6, .slice sa7 sl7 sc7, .slice sa8 sl8 sc8, .slice sa9 sl9 sc9, .int .i64 y.d, .int .i64 y.w])
        have hz7 := box_size V6 #[.slice none 0 0, .slice none 0 0, .slice none 0 0, .slice none 0 0, .string ⟨#[]⟩, .slice none 0 0, .slice none 0 0, .slice none 0 0, .slice none 0 0, .slice none 0 0, .int .i64 0, .int .i64 0] #[.slice sa0 sl0 sc0, .slice sa1 sl1 sc1, .slice sa2 sl2 sc2, .slice sa3 sl3 sc3, .string y.globals, .slice sa5 sl5 sc5, .slice sa6 sl6 sc6, .slice sa7 sl7 sc7, .slice sa8 sl8 sc8, .slice sa9 sl9 sc9, .int .i64 y.d, .int .i64 y.w]
        have HBY7 := Lib.hid (HBY6.out.keep (fun k hk => box_keep V6 #[.slice none 0 0, .slice none 0 0, .slice none 0 0, .slice none 0 0, .string ⟨#[]⟩, .slice none 0 0, .slice none 0 0, .slice none 0 0, .slice none 0 0, .slice none 0 0, .int .i64 0, .int .i64 0] #[.slice sa0 sl0 sc0, .slice sa1 sl1 sc1, .slice sa2 sl2 sc2, .slice sa3 sl3 sc3, .string y.globals, .slice sa5 sl5 sc5, .slice sa6 sl6 sc6, .slice sa7 sl7 sc7, .slice sa8 sl8 sc8, .slice sa9 sl9 sc9, .int .i64 y.d, .int .i64 y.w] k hk))
        have hI7 := shImg.wide (S' := fun k => k < ((V6.alloc (.cells #[.slice none 0 0, .slice none 0 0, .slice none 0 0, .slice none 0 0, .string ⟨#[]⟩, .slice none 0 0, .slice none 0 0, .slice none 0 0, .slice none 0 0, .slice none 0 0, .int .i64 0, .int .i64 0] 29)).setRow V6.heap.size #[.slice sa0 sl0 sc0, .slice sa1 sl1 sc1, .slice sa2 sl2 sc2, .slice sa3 sl3 sc3, .string y.globals, .slice sa5 sl5 sc5, .slice sa6 sl6 sc6, .slice sa7 sl7 sc7, .slice sa8 sl8 sc8, .slice sa9 sl9 sc9, .int .i64 y.d, .int .i64 y.w]).heap.size) (fun k hk => by rw [hz7]; omega) (shImg.keep (fun k hk => box_keep V6 #[.slice none 0 0, .slice none 0 0, .slice none 0 0, .slice none 0 0, .string ⟨#[]⟩, .slice none 0 0, .slice none 0 0, .slice none 0 0, .slice none 0 0, .slice none 0 0, .int .i64 0, .int .i64 0] #[.slice sa0 sl0 sc0, .slice sa1 sl1 sc1, .slice sa2 sl2 sc2, .slice sa3 sl3 sc3, .string y.globals, .slice sa5 sl5 sc5, .slice sa6 sl6 sc6, .slice sa7 sl7 sc7, .slice sa8 sl8 sc8, .slice sa9 sl9 sc9, .int .i64 y.d, .int .i64 y.w] k hk) hI3)
        have HI7 := Lib.hid hI7
        have hly2 := lay_any _ _ y hI7
        have hone2 : (#[.slice sa0 sl0 sc0, .slice sa1 sl1 sc1, .slice sa2 sl2 sc2, .slice sa3 sl3 sc3, .string y.globals, .slice sa5 sl5 sc5, .slice sa6 sl6 sc6, .slice sa7 sl7 sc7, .slice sa8 sl8 sc8, .slice sa9 sl9 sc9, .int .i64 y.d, .int .i64 y.w] : Array Value).all (·.oneCell') = true := by simp [Value.oneCell']
        clear hI3 hI7
        go_wp2_with (first | (refine wpList_store_row rfl 29 (.tmp 11) (.tmp 49) rfl V6.heap.size #[.slice sa0 sl0 sc0, .slice sa1 sl1 sc1, .slice sa2 sl2 sc2, .slice sa3 sl3 sc3, .string y.globals, .slice sa5 sl5 sc5, .slice sa6 sl6 sc6, .slice sa7 sl7 sc7, .slice sa8 sl8 sc8, .slice sa9 sl9 sc9, .int .i64 y.d, .int .i64 y.w] rfl rfl 29 #[.slice none 0 0, .slice none 0 0, .slice none 0 0, .slice none 0 0, .string ⟨#[]⟩, .slice none 0 0, .slice none 0 0, .slice none 0 0, .slice none 0 0, .slice none 0 0, .int .i64 0, .int .i64 0] HK6.out size29 rfl hone2 ?_) | (refine wpList_load_row rfl 29 (.tmp 11) rfl V6.heap.size rfl 29 #[.slice sa0 sl0 sc0, .slice sa1 sl1 sc1, .slice sa2 sl2 sc2, .slice sa3 sl3 sc3, .string y.globals, .slice sa5 sl5 sc5, .slice sa6 sl6 sc6, .slice sa7 sl7 sc7, .slice sa8 sl8 sc8, .slice sa9 sl9 sc9, .int .i64 y.d, .int .i64 y.w] (0, 0) _ HS7.out Tryz.underlying29 rfl size29 ?_) | (go_at_call 9; refine hly2.mono ?_))
        rintro e V8 ⟨hla, hb8⟩
        have HB8 := Lib.hid (HB7.out.trans (hb8.mono HB7.out.size))
        have HS8 := Lib.hid ((hb8.block _ (by omega)).trans HS7.out)
        have HX8 := Lib.hid ((hb8.block _ (heap_lt HX7.out)).trans HX7.out)
        have HI8 := Lib.hid (shImg.keep (W' := V8) (fun k hk => hb8.block k hk) HI7.out)
        have HBY8 := Lib.hid (HBY7.out.keep (fun k hk => hb8.block k (by omega)))
        have hs78 := hb8.size
        clear hly2 hb8 hone2
        rcases hla with ⟨hful, _⟩ | ⟨_, g2, cap2, rfl, hown2⟩
        · rw [hrl] at hful; cases hful
        rw [hrl] at hown2 ⊢
        simp only [HLD.out] at hown2 ⊢
        have heq := eq_bytes _ _ V8 _ _ _ _ _ _ D (bytes_of_own hown2) HBY8.out
        clear hown2 hrl
        go_wp2_with (go_at_call 11; refine heq.mono ?_)
        rintro e V9 ⟨rfl, m, hV9⟩
        have HB9 := Lib.hid (show Below W.heap.size W V9 by rw [hV9]; exact below_drew HB8.out m)
        have HS9 := Lib.hid (show V9.heap[V6.heap.size]? = some (.cells #[.slice sa0 sl0 sc0, .slice sa1 sl1 sc1, .slice sa2 sl2 sc2, .slice sa3 sl3 sc3, .string y.globals, .slice sa5 sl5 sc5, .slice sa6 sl6 sc6, .slice sa7 sl7 sc7, .slice sa8 sl8 sc8, .slice sa9 sl9 sc9, .int .i64 y.d, .int .i64 y.w] 29 (0, 0)) by rw [hV9]; exact HS8.out)
        have HX9 := Lib.hid (show V9.heap[W.heap.size]? = some (.cells #[.slice a0 l0 c0, .slice a1 l1 c1, .slice a2 l2 c2, .slice a3 l3 c3, .string x.globals, .slice a5 l5 c5, .slice a6 l6 c6, .slice a7 l7 c7, .slice a8 l8 c8, .slice a9 l9 c9, .int .i64 x.d, .int .i64 x.w] 29 (0, 0)) by rw [hV9]; exact HX8.out)
        have hlm : ((V6.alloc (.cells #[.slice none 0 0, .slice none 0 0, .slice none 0 0, .slice none 0 0, .string ⟨#[]⟩, .slice none 0 0, .slice none 0 0, .slice none 0 0, .slice none 0 0, .slice none 0 0, .int .i64 0, .int .i64 0] 29)).setRow V6.heap.size #[.slice sa0 sl0 sc0, .slice sa1 sl1 sc1, .slice sa2 sl2 sc2, .slice sa3 sl3 sc3, .string y.globals, .slice sa5 sl5 sc5, .slice sa6 sl6 sc6, .slice sa7 sl7 sc7, .slice sa8 sl8 sc8, .slice sa9 sl9 sc9, .int .i64 y.d, .int .i64 y.w]).heap.size ≤ V9.heap.size := by rw [hV9]; exact hs78
        have hIy := shImg.keep (W' := V9) (fun k _ => by rw [hV9]; rfl) HI8.out
        have hIx := shImg.wide (S' := fun k => k < ((V6.alloc (.cells #[.slice none 0 0, .slice none 0 0, .slice none 0 0, .slice none 0 0, .string ⟨#[]⟩, .slice none 0 0, .slice none 0 0, .slice none 0 0, .slice none 0 0, .slice none 0 0, .int .i64 0, .int .i64 0] 29)).setRow V6.heap.size #[.slice sa0 sl0 sc0, .slice sa1 sl1 sc1, .slice sa2 sl2 sc2, .slice sa3 sl3 sc3, .string y.globals, .slice sa5 sl5 sc5, .slice sa6 sl6 sc6, .slice sa7 sl7 sc7, .slice sa8 sl8 sc8, .slice sa9 sl9 sc9, .int .i64 y.d, .int .i64 y.w]).heap.size) (fun k hk => by rw [hz7]; have := HB6.out.size; omega) (shImg.keep (W' := V9) (fun k hk => HB9.out.block k hk) H.out)
        have hni := ne_image _ V9 _ _ y x hIy hIx hlm HNY.out
        clear heq hV9 hIx hIy hlm
        have q0 : V9.cell? ⟨V6.heap.size, 0, none⟩ = some (.slice sa0 sl0 sc0) := by rw [Lib.cell_of_heap HS9.out]; rfl
        have q1 : V9.cell? ⟨V6.heap.size, 1, none⟩ = some (.slice sa1 sl1 sc1) := by rw [Lib.cell_of_heap HS9.out]; rfl
        have q2 : V9.cell? ⟨V6.heap.size, 2, none⟩ = some (.slice sa2 sl2 sc2) := by rw [Lib.cell_of_heap HS9.out]; rfl
        have q3 : V9.cell? ⟨V6.heap.size, 3, none⟩ = some (.slice sa3 sl3 sc3) := by rw [Lib.cell_of_heap HS9.out]; rfl
        have q4 : V9.cell? ⟨V6.heap.size, 4, none⟩ = some (.string y.globals) := by rw [Lib.cell_of_heap HS9.out]; rfl
        have q5 : V9.cell? ⟨V6.heap.size, 5, none⟩ = some (.slice sa5 sl5 sc5) := by rw [Lib.cell_of_heap HS9.out]; rfl
        have q6 : V9.cell? ⟨V6.heap.size, 6, none⟩ = some (.slice sa6 sl6 sc6) := by rw [Lib.cell_of_heap HS9.out]; rfl
        have q7 : V9.cell? ⟨V6.heap.size, 7, none⟩ = some (.slice sa7 sl7 sc7) := by rw [Lib.cell_of_heap HS9.out]; rfl
        have q8 : V9.cell? ⟨V6.heap.size, 8, none⟩ = some (.slice sa8 sl8 sc8) := by rw [Lib.cell_of_heap HS9.out]; rfl
        have q9 : V9.cell? ⟨V6.heap.size, 9, none⟩ = some (.slice sa9 sl9 sc9) := by rw [Lib.cell_of_heap HS9.out]; rfl
        have q10 : V9.cell? ⟨V6.heap.size, 10, none⟩ = some (.int .i64 y.d) := by rw [Lib.cell_of_heap HS9.out]; rfl
        have q11 : V9.cell? ⟨V6.heap.size, 11, none⟩ = some (.int .i64 y.w) := by rw [Lib.cell_of_heap HS9.out]; rfl
        have p0 : V9.cell? ⟨W.heap.size, 0, none⟩ = some (.slice a0 l0 c0) := by rw [Lib.cell_of_heap HX9.out]; rfl
        have p1 : V9.cell? ⟨W.heap.size, 1, none⟩ = some (.slice a1 l1 c1) := by rw [Lib.cell_of_heap HX9.out]; rfl
        have p2 : V9.cell? ⟨W.heap.size, 2, none⟩ = some (.slice a2 l2 c2) := by rw [Lib.cell_of_heap HX9.out]; rfl
        have p3 : V9.cell? ⟨W.heap.size, 3, none⟩ = some (.slice a3 l3 c3) := by rw [Lib.cell_of_heap HX9.out]; rfl
        have p4 : V9.cell? ⟨W.heap.size, 4, none⟩ = some (.string x.globals) := by rw [Lib.cell_of_heap HX9.out]; rfl
        have p5 : V9.cell? ⟨W.heap.size, 5, none⟩ = some (.slice a5 l5 c5) := by rw [Lib.cell_of_heap HX9.out]; rfl
        have p6 : V9.cell? ⟨W.heap.size, 6, none⟩ = some (.slice a6 l6 c6) := by rw [Lib.cell_of_heap HX9.out]; rfl
        have p7 : V9.cell? ⟨W.heap.size, 7, none⟩ = some (.slice a7 l7 c7) := by rw [Lib.cell_of_heap HX9.out]; rfl
        have p8 : V9.cell? ⟨W.heap.size, 8, none⟩ = some (.slice a8 l8 c8) := by rw [Lib.cell_of_heap HX9.out]; rfl
        have p9 : V9.cell? ⟨W.heap.size, 9, none⟩ = some (.slice a9 l9 c9) := by rw [Lib.cell_of_heap HX9.out]; rfl
        have p10 : V9.cell? ⟨W.heap.size, 10, none⟩ = some (.int .i64 x.d) := by rw [Lib.cell_of_heap HX9.out]; rfl
        have p11 : V9.cell? ⟨W.heap.size, 11, none⟩ = some (.int .i64 x.w) := by rw [Lib.cell_of_heap HX9.out]; rfl
        go_wp2_with (go_at_call 14; refine hni.mono ?_)
        rintro e V10 ⟨rfl, hb10⟩
        have HB10 := Lib.hid (HB9.out.trans (hb10.mono HB9.out.size))
        clear hni hb10
        clear q0 q1 q2 q3 q4 q5 q6 q7 q8 q9 q10 q11
        clear p0 p1 p2 p3 p4 p5 p6 p7 p8 p9 p10 p11
        go_wp2_with (go_at_call 8; refine (awake_any V10 (HE.out.keep HB10.out hs0)).mono ?_)
        rintro e V11 ⟨rfl, hbz⟩
        have HBZ := Lib.hid (HB10.out.trans (hbz.mono HB10.out.size))
        clear hbz
        go_wp2_with fail
        go_returns
        exact ⟨rfl, HBZ.out⟩
      · have HK6 := Lib.hid (heap_alloc_new V6 (.cells #[.slice none 0 0, .slice none 0 0, .slice none 0 0, .slice none 0 0, .string ⟨#[]⟩, .slice none 0 0, .slice none 0 0, .slice none 0 0, .slice none 0 0, .slice none 0 0, .int .i64 0, .int .i64 0] 29))
        have HB7 := Lib.hid (below_box HB6.out HB6.out.size #[.slice none 0 0, .slice none 0 0, .slice none 0 0, .slice none 0 0, .string ⟨#[]⟩, .slice none 0 0, .slice none 0 0, .slice none 0 0, .slice none 0 0, .slice none 0 0, .int .i64 0, .int .i64 0] #[.slice none 0 0, .slice none 0 0, .slice none 0 0, .slice none 0 0, .string ⟨#[]⟩, .slice none 0 0, .slice none 0 0, .slice none 0 0, .slice none 0 0, .slice none 0 0, .int .i64 0, .int .i64 0])
        have HS7 := Lib.hid (box_new V6 #[.slice none 0 0, .slice none 0 0, .slice none 0 0, .slice none 0 0, .string ⟨#[]⟩, .slice none 0 0, .slice none 0 0, .slice none 0 0, .slice none 0 0, .slice none 0 0, .int .i64 0, .int .i64 0] #[.slice none 0 0, .slice none 0 0, .slice none 0 0, .slice none 0 0, .string ⟨#[]⟩, .slice none 0 0, .slice none 0 0, .slice none 0 0, .slice none 0 0, .slice none 0 0, .int .i64 0, .int .i64 0])
        have hgf2 := box_old hgf #[.slice none 0 0, .slice none 0 0, .slice none 0 0, .slice none 0 0, .string ⟨#[]⟩, .slice none 0 0, .slice none 0 0, .slice none 0 0, .slice none 0 0, .slice none 0 0, .int .i64 0, .int .i64 0] #[.slice none 0 0, .slice none 0 0, .slice none 0 0, .slice none 0 0, .string ⟨#[]⟩, .slice none 0 0, .slice none 0 0, .slice none 0 0, .slice none 0 0, .slice none 0 0, .int .i64 0, .int .i64 0]
        have hcd := code_err 19 gf _ (HE.out.keep HB7.out hs0) hgf2
        clear hgf hgf2 hne5
        go_wp2_with (first | (refine wpList_store_row rfl 29 (.tmp 11) (.tmp 49) rfl V6.heap.size #[.slice none 0 0, .slice none 0 0, .slice none 0 0, .slice none 0 0, .string ⟨#[]⟩, .slice none 0 0, .slice none 0 0, .slice none 0 0, .slice none 0 0, .slice none 0 0, .int .i64 0, .int .i64 0] rfl rfl 29 #[.slice none 0 0, .slice none 0 0, .slice none 0 0, .slice none 0 0, .string ⟨#[]⟩, .slice none 0 0, .slice none 0 0, .slice none 0 0, .slice none 0 0, .slice none 0 0, .int .i64 0, .int .i64 0] HK6.out size29 rfl zero_one ?_) | (go_at_call 12; refine hcd.mono ?_))
        rintro e V8 ⟨rfl, hb8⟩
        have HB8 := Lib.hid (HB7.out.trans (hb8.mono HB7.out.size))
        have HS8 := Lib.hid ((hb8.block _ (heap_lt HS7.out)).trans HS7.out)
        have heq := eq_image 0 V8 _ _ imgZ (isZ _ _) (isZ _ _) (Nat.zero_le _)
        clear hcd hb8
        have q0 : V8.cell? ⟨V6.heap.size, 0, none⟩ = some (.slice none 0 0) := by rw [Lib.cell_of_heap HS8.out]; rfl
        have q1 : V8.cell? ⟨V6.heap.size, 1, none⟩ = some (.slice none 0 0) := by rw [Lib.cell_of_heap HS8.out]; rfl
        have q2 : V8.cell? ⟨V6.heap.size, 2, none⟩ = some (.slice none 0 0) := by rw [Lib.cell_of_heap HS8.out]; rfl
        have q3 : V8.cell? ⟨V6.heap.size, 3, none⟩ = some (.slice none 0 0) := by rw [Lib.cell_of_heap HS8.out]; rfl
        have q4 : V8.cell? ⟨V6.heap.size, 4, none⟩ = some (.string ⟨#[]⟩) := by rw [Lib.cell_of_heap HS8.out]; rfl
        have q5 : V8.cell? ⟨V6.heap.size, 5, none⟩ = some (.slice none 0 0) := by rw [Lib.cell_of_heap HS8.out]; rfl
        have q6 : V8.cell? ⟨V6.heap.size, 6, none⟩ = some (.slice none 0 0) := by rw [Lib.cell_of_heap HS8.out]; rfl
        have q7 : V8.cell? ⟨V6.heap.size, 7, none⟩ = some (.slice none 0 0) := by rw [Lib.cell_of_heap HS8.out]; rfl
        have q8 : V8.cell? ⟨V6.heap.size, 8, none⟩ = some (.slice none 0 0) := by rw [Lib.cell_of_heap HS8.out]; rfl
        have q9 : V8.cell? ⟨V6.heap.size, 9, none⟩ = some (.slice none 0 0) := by rw [Lib.cell_of_heap HS8.out]; rfl
        have q10 : V8.cell? ⟨V6.heap.size, 10, none⟩ = some (.int .i64 0) := by rw [Lib.cell_of_heap HS8.out]; rfl
        have q11 : V8.cell? ⟨V6.heap.size, 11, none⟩ = some (.int .i64 0) := by rw [Lib.cell_of_heap HS8.out]; rfl
        go_wp2_with (go_at_call 14; refine heq.mono ?_)
        rintro e V9 ⟨rfl, hb9⟩
        have HB9 := Lib.hid (HB8.out.trans (hb9.mono HB8.out.size))
        clear heq hb9
        clear q0 q1 q2 q3 q4 q5 q6 q7 q8 q9 q10 q11
        go_wp2_with (go_at_call 8; refine (awake_any V9 (HE.out.keep HB9.out hs0)).mono ?_)
        rintro e V10 ⟨rfl, hbz⟩
        have HBZ := Lib.hid (HB9.out.trans (hbz.mono HB9.out.size))
        clear hbz
        go_wp2_with fail
        go_returns
        exact ⟨rfl, HBZ.out⟩
end Go.Proofs.YtoaohoeghlidaaaGreatDoor
