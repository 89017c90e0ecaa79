/-
  The interfaces of a class.
-/
import Derived.Test.YtnjfbcoddbeggaaUchain
namespace Go.Proofs.Ytnjfbcoddbeggaa
open Go Go.ChangeShapes Go.WideShapes Go.ChangeAt Go.RowKit Go.Joins Go.ChangeMaps Go.MapKept

section
variable {ds : List DeclU} {lim lo : Nat} {X : Nat → Prop} {b : Nat} {a : Option Addr} {l c g1 g2 g3 : Nat} {t : Int} {met : List Int}
set_option maxHeartbeats 1600000 in
set_option maxRecDepth 100000 in
theorem note_n (W : World) {N : Nat} {R : Nat → Bool} {B : Nat → Int} {F : Nat → Value} {T : Nat → Int} (h : BkN ds lim lo X W b a l c g1 g2 g3 t met N R B F T) (i : Nat) (hi : i < l) :
    Calls Try.prog 98 #[.pointer (some ⟨b, 0, none⟩), .int .i64 i] W fun e W' => e = .returned (.pointer (some ⟨N, i * 5, none⟩)) ∧ W' = W := by
  have i0 : (i : Int) < (l : Int) := by omega
  have i1 : (0 : Int) ≤ (i : Int) := by omega
  have hn := fun (w : World) (a : Option Addr) (n c n' c' : Nat) => Lib.run_eql_slice_nil (P := Try.prog) w 114 127 a n c n' c' Try.underlying114
  have c2 : W.cell? ⟨b, 2, none⟩ = some (.slice (some ⟨N, 0, none⟩) l l) := by rw [Lib.cell_of_heap h.blk]; rfl
  clear h
  go_enter Try.func98, Try.ntmps98
  go_wp2_with fail
  go_returns
  exact ⟨rfl, rfl⟩
/-- is it there for the first time? (where there are notes) -/
inductive FNPost (ds : List DeclU) (lim lo : Nat) (X : Nat → Prop) (W W' : World) (b : Nat) (a : Option Addr) (l c g1 g2 g3 : Nat) (t : Int) (met : List Int) (N : Nat) (R : Nat → Bool) (B : Nat → Int) (F : Nat → Value) (d : Int) (e : Ending) : Prop
  | mk (T : Nat → Int) (h1 : e = .returned (.bool (!met.contains d))) (h2 : BkN ds lim lo X W' b a l c g1 g2 g3 t (addNew met d) N R B F T) (h3 : Kp lo X W W') : FNPost ds lim lo X W W' b a l c g1 g2 g3 t met N R B F d e
set_option maxHeartbeats 1600000 in
set_option maxRecDepth 100000 in
theorem first_n (W : World) {N : Nat} {R : Nat → Bool} {B : Nat → Int} {F : Nat → Value} {T : Nat → Int} (h : BkN ds lim lo X W b a l c g1 g2 g3 t met N R B F T) (i : Nat) (hi : i < l) (p q : Nat) (hp : W.cell? ⟨p, 0, none⟩ = some (.pointer (some ⟨b, 0, none⟩))) (hq : W.cell? ⟨q, 0, none⟩ = some (.int .i64 t)) :
    Calls Try.prog 97 #[.int .i64 i, .pointer (some ⟨p, 0, none⟩), .pointer (some ⟨q, 0, none⟩)] W fun e W' => FNPost ds lim lo X W W' b a l c g1 g2 g3 t met N R B F i e := by
  have hn := note_n W h i hi
  have n4 := h.notes.c4 i hi
  have fz := h.notes.fz (i * 5 + 4)
  have HB := Lib.hid h
  clear h
  go_enter Try.func97, Try.ntmps97
  cases hst : (T i == t) with
  | true =>
    have hm : met.contains (i : Int) = true := by rw [List.contains_iff_mem]; exact (HB.out.stamp i hi).2.1 (by simpa using hst)
    go_wp2_with (go_at_call 98; refine hn.mono ?_)
    rintro e W1 ⟨rfl, rfl⟩
    clear hn hp
    go_wp2_with fail
    go_quiet (fail)
    go_wp2_with fail
    go_returns
    exact ⟨_, by rw [hm]; rfl, (HB.out.drew nq).stamped hi, (Kp.refl lo X W1).drew nq |>.trans (Kp.set _ _ HB.out.loN HB.out.xN)⟩
  | false =>
    have hm : met.contains (i : Int) = false := by
      cases hc : met.contains (i : Int) with
      | false => rfl
      | true =>
        rw [List.contains_iff_mem] at hc
        have := (HB.out.stamp i hi).2.2 hc
        rw [this] at hst
        simp at hst
    go_wp2_with (go_at_call 98; refine hn.mono ?_)
    rintro e W1 ⟨rfl, rfl⟩
    clear hn hp
    go_wp2_with fail
    go_quiet (fail)
    go_wp2_with fail
    go_returns
    exact ⟨_, by rw [hm]; rfl, (HB.out.drew nq).stamped hi, (Kp.refl lo X W1).drew nq |>.trans (Kp.set _ _ HB.out.loN HB.out.xN)⟩
theorem BkN.overX {X' : Nat → Prop} {W W' : World} {N : Nat} {R : Nat → Bool} {B : Nat → Int} {F : Nat → Value} {T : Nat → Int} (h : BkN ds lim lo X W b a l c g1 g2 g3 t met N R B F T) (hs : W.heap.size ≤ W'.heap.size)
    (hk : ∀ k, k < W.heap.size → ¬ X k → W'.heap[k]? = W.heap[k]?) (hx : ∀ k, X' k → X k ∨ W.heap.size ≤ k) : BkN ds lim lo X' W' b a l c g1 g2 g3 t met N R B F T :=
  ((h.turnX (X' := fun k => X k ∨ X' k) (fun k h => h.elim .inl (hx k))).over hs (fun k h1 h2 => hk k h1 (fun h => h2 (.inl h)))).turnX (fun _ h => .inl (.inr h))
theorem chain_len (ds : List DeclU) (d : Int) : (chainU ds d).length ≤ ds.length := by
  obtain ⟨e, h, _⟩ := chain_way ds d
  exact h.len
theorem facesOf_len {ds : List DeclU} (h : Few ds) (d : Int) : (facesOf ds d).length ≤ 8 := by
  unfold facesOf
  split
  · rename_i x hx
    unfold ownFaces
    exact Nat.le_trans (List.length_filterMap_le _ _) (h _ _ hx).1
  · simp
def XF (X : Nat → Prop) (p q : Nat) (cv fv : Value) : Nat → Prop := fun k => (X k ∨ cv.ownBlock = some k) ∨ k = p ∨ k = q ∨ fv.ownBlock = some k
abbrev XC (X : Nat → Prop) (p q : Nat) (cv : Value) : Nat → Prop := fun k => (X k ∨ cv.ownBlock = some k) ∨ k = p ∨ k = q
set_option maxHeartbeats 3200000 in
set_option maxRecDepth 100000 in
theorem faces_any (W : World) (h : BkAny ds lim lo X W b a l c g1 g2 g3 t met) (ht : t ≤ 700) (hx : ∀ k, X k → k < W.heap.size) (x3 : X g3) (m3 : W.heap[g3]? = some (.map #[] 0)) (d : Int) (hd : (Lit.int .i64 d).wf = true) :
    Calls Try.prog 51 #[.pointer (some ⟨b, 0, none⟩), .int .i64 d] W fun e W' => ∃ v, e = .returned v ∧ W'.ownsRow W.heap.size 3 1 v (facesU ds d).length ((facesU ds d).map iv) ∧ Below lo W W' := by
  have hch := chain_any W h (by omega) hx x3 m3 d hd
  have hwl := h.bk.2.2
  have hlob := h.bk.1.lob
  have hlW : lo ≤ W.heap.size := by omega
  have hf16 := h.bk.1.few
  have hds := h.bk.1.row.1
  have HX := Lib.hid hx
  clear h hx m3 hd
  obtain ⟨G, hG⟩ : ∃ G, facesU ds d = G := ⟨_, rfl⟩
  rw [hG]
  unfold facesU at hG
  have hcl := chain_len ds d
  have hcm : ∀ c ∈ chainU ds d, hasU ds c 2 = true := fun c hc => chain_cls hc
  generalize chainU ds d = C at *
  have HG := Lib.hid hG
  have HCM := Lib.hid hcm
  clear hG hcm
  go_enter Try.func51, Try.ntmps51
  go_wp2_with (go_at_call 50; refine hch.mono ?_)
  rintro e V1 ⟨cv, met1, rfl, hown1, hbk1, hk1⟩
  clear hch
  have hbg := begin_any V1 hbk1 (by omega)
  have ht1 := hbk1.bk.1.turn
  have HO1 := Lib.hid hown1
  have HK1 := Lib.hid hk1
  have hs1 := hk1.size
  clear hown1 hbk1 hk1
  go_wp2_with (go_at_call 74; refine hbg.mono ?_)
  rintro e V2 ⟨p, q, rfl, hb2, hk2, hp, hq, p0, q0, p1, q1, -⟩
  clear hbg
  have hs2 := hk2.size
  have HO2 := Lib.hid (own_keep1 HO1.out (fun k hk => hk2.block k (own_type HO1.out hk).2.1 (.inr (.inr hk))))
  have HK2 := Lib.hid (HK1.out.trans (hk2.sub (X' := fun k => X k ∧ k ≠ g3) (fun k _ h => .inl (.inl h.1))))
  have HP2 := Lib.hid hp
  have HQ2 := Lib.hid hq
  have HB2 := Lib.hid hb2
  obtain ⟨ca, cl, cc, rfl⟩ : ∃ ca cl cc, cv = .slice ca cl cc := by
    rcases ownsRow_forms HO2.out with ⟨h, _⟩ | ⟨g, cap, h⟩
    · exact ⟨_, _, _, h⟩
    · exact ⟨_, _, _, h⟩
  have hcl2 : cl = C.length := by have := lenV_own HO2.out; exact this
  have hm1 : cl ≤ 9223372036854775807 := by omega
  clear hb2 hk2 hp hq
  go_wp2_with fail
  go_loopw [19, 5] (fun ix fv wr => ∃ (k : Nat) (out : List Int), k ≤ cl ∧ ix = .int .i64 k ∧ ((C.take k).flatMap (facesOf ds)).foldl addNew [] = out ∧ out.length ≤ 8 * k ∧ wr.ownsRow V2.heap.size 3 1 fv out.length (out.map iv) ∧ BkAny ds lim lo (XF X p q (.slice ca cl cc) fv) wr b a l c g1 g2 g3 (t + 1 + 1) out ∧ Kp lo (XC X p q (.slice ca cl cc)) V2 wr) (fun ix _ _ => cl - (intOf ix).toNat)
  case atStart => exact ⟨0, [], Nat.zero_le _, rfl, rfl, by simp, World.ownsRow_nil _ _ _ _, HB2.out.turnX (fun k h => by
    rcases h with h | h | h | h
    · exact .inl (.inl h)
    · exact .inl (.inr (.inl h))
    · exact .inl (.inr (.inr h))
    · cases h), Kp.refl _ _ _⟩
  case round =>
    obtain ⟨k, out, hk, rfl, hout, hol, hown, hbk, hkp⟩ := hrel
    have hxw : ∀ k, XF X p q (.slice ca cl cc) u5 k → k < wr.heap.size := fun k h => by
      have := hkp.size
      have := HK2.out.size
      rcases h with (h | h) | rfl | rfl | h
      · have := HX.out k h; omega
      · have := (own_type HO2.out h).2.1; omega
      · omega
      · omega
      · exact (own_type hown h).2.1
    have HOWN := Lib.hid hown
    have HKP := Lib.hid hkp
    have HOUT := Lib.hid hout
    have ht2 := hbk.bk.1.turn
    have hfew := hbk.bk.1.few8
    by_cases hlt : k < cl
    · have i0 : (k : Int) < (cl : Int) := by omega
      have i1 : (0 : Int) ≤ (k : Int) := by omega
      have hch := (ints_row (S := fun _ => True) (own_keep1 HO2.out (w' := wr) (fun k hk => hkp.block k (own_type HO2.out hk).2.1 (.inr (.inl (.inr hk))))) (fun _ _ => trivial)).1
      obtain ⟨cb, co, c0, vs, rfl, _, hx0, hca, hI⟩ := hch.item hlt
      obtain rfl := int_is.1 hI
      have e1 : wr.cell? ⟨cb, co + k, none⟩ = some (.int .i64 c0) := by have := hca 0 _ rfl; rw [show co + k * shInt.n + 0 = co + k by show co + k * 1 + 0 = _; omega] at this; exact this
      obtain ⟨i, x, rfl, hix, -⟩ := has_spec.1 (HCM.out c0 (List.mem_of_getElem? hx0))
      have hil : i < l := by have := (List.getElem?_eq_some_iff.1 hix).1; omega
      have hrl := relate_any wr hbk (by omega) hxw i hil
      have hfl8 := facesOf_len hfew (i : Int)
      have htk : (C.take (k + 1)).flatMap (facesOf ds) = (C.take k).flatMap (facesOf ds) ++ facesOf ds (i : Int) := by rw [take_snoc hx0, List.flatMap_append]; simp
      have HTK := Lib.hid htk
      have HXW := Lib.hid hxw
      have hol2 := hol
      clear hbk hown hkp hout hch hca hI hix hx0 htk hxw hfew
      go_wp2_with (go_at_call 75; refine hrl.mono ?_)
      rintro e V3 ⟨N, R, B, F, T, rfl, hb3, hRi, hk3⟩
      clear hrl e1
      obtain ⟨-, fa, fl, fc, hFi, hfrow⟩ := (hb3.ok i hil).2 hRi
      have hfl : fl = (facesOf ds (i : Int)).length := hfrow.1.symm
      have n2 := hb3.notes.c2 i hil
      rw [hFi] at n2
      have HB3 := Lib.hid hb3
      have HK3 := Lib.hid (HKP.out.trans (hk3.sub (X' := XC X p q (.slice (some ⟨cb, co, none⟩) cl cc)) (fun k _ h => by
        rcases h with h | h | h
        · exact .inl (.inl h)
        · exact .inl (.inr (.inl h))
        · exact .inl (.inr (.inr (.inl h))))))
      have HO3 := Lib.hid (own_keep1 HOWN.out (fun k hk => hk3.block k (own_type HOWN.out hk).2.1 (.inr (.inr (.inr (.inr hk))))))
      have HFI := Lib.hid hFi
      have HRI := Lib.hid hRi
      clear hb3 hk3 hfrow hFi hRi
      go_wp2_with fail
      go_loopw [30, 5] (fun jx fv wq => ∃ (j : Nat) (out2 : List Int), j ≤ fl ∧ jx = .int .i64 j ∧ ((facesOf ds (i : Int)).take j).foldl addNew out = out2 ∧ out2.length ≤ 8 * k + j ∧ wq.ownsRow V2.heap.size 3 1 fv out2.length (out2.map iv) ∧ (∃ T', BkN ds lim lo (XF X p q (.slice (some ⟨cb, co, none⟩) cl cc) fv) wq b a l c g1 g2 g3 (t + 1 + 1) out2 N R B F T') ∧ Kp lo (XC X p q (.slice (some ⟨cb, co, none⟩) cl cc)) V2 wq) (fun jx _ _ => fl - (intOf jx).toNat)
      case atStart => exact ⟨0, out, Nat.zero_le _, rfl, rfl, by omega, HO3.out, ⟨T, HB3.out⟩, HK3.out⟩
      case round =>
        obtain ⟨j, out2, hj, rfl, hout2, hol3, hown2, ⟨T', hbk2⟩, hkp2⟩ := hrel
        clear n2
        have HO4 := Lib.hid hown2
        have HKP4 := Lib.hid hkp2
        have HOUT4 := Lib.hid hout2
        have hs4 := hkp2.size
        have hs20 := HK2.out.size
        by_cases hjl : j < fl
        · have j0 : (j : Int) < (fl : Int) := by omega
          have j1 : (0 : Int) ≤ (j : Int) := by omega
          obtain ⟨-, fa2, fl2, fc2, hFi2, hrow⟩ := (hbk2.ok i hil).2 HRI.out
          have hFe := HFI.out.symm.trans hFi2
          simp only [Value.slice.injEq] at hFe
          obtain ⟨rfl, rfl, rfl⟩ := hFe
          obtain ⟨fb, fo, f0, vs2, rfl, _, hf0, hfc, hfI⟩ := hrow.item hjl
          obtain rfl := int_is.1 hfI
          have e2 : wr.cell? ⟨fb, fo + j, none⟩ = some (.int .i64 f0) := by have := hfc 0 _ rfl; rw [show fo + j * shInt.n + 0 = fo + j by show fo + j * 1 + 0 = _; omega] at this; exact this
          obtain ⟨n, x2, rfl, hnx, -⟩ := has_spec.1 (facesOf_mem (List.mem_of_getElem? hf0)).1
          have hnl : n < l := by have := (List.getElem?_eq_some_iff.1 hnx).1; omega
          have hpw : wr.cell? ⟨p, 0, none⟩ = some (.pointer (some ⟨b, 0, none⟩)) := (World.cell?_of_block (a := ⟨p, 0, none⟩) (hkp2.block p p1 (.inr (.inr (.inl rfl))))).trans HP2.out
          have hqw : wr.cell? ⟨q, 0, none⟩ = some (.int .i64 (t + 1 + 1)) := (World.cell?_of_block (a := ⟨q, 0, none⟩) (hkp2.block q q1 (.inr (.inr (.inr rfl))))).trans HQ2.out
          have hft := first_n wr hbk2 n hnl p q hpw hqw
          have HTJ := Lib.hid (take_snoc hf0)
          clear hbk2 hown2 hkp2 hout2 hrow hfc hfI hf0 hnx hpw hqw hFi2
          go_wp2_with (go_at_call 97; refine hft.mono ?_)
          rintro e V5 ⟨T5, rfl, hb5, hk5⟩
          clear hft e2
          have hs5 := hk5.size
          have hO5 := own_keep1 HO4.out (fun k hk => hk5.block k (own_type HO4.out hk).2.1 (.inr (.inr (.inr (.inr hk)))))
          have HK5 := Lib.hid (HKP4.out.trans (hk5.sub (X' := XC X p q (.slice (some ⟨cb, co, none⟩) cl cc)) (fun k _ h => by
            rcases h with h | h | h
            · exact .inl (.inl h)
            · exact .inl (.inr (.inl h))
            · exact .inl (.inr (.inr (.inl h))))))
          cases hct : out2.contains (n : Int) with
          | true =>
            have hadd : addNew out2 (n : Int) = out2 := by unfold addNew; rw [hct]; rfl
            rw [hadd] at hb5
            have HB5 := Lib.hid hb5
            have HO5 := Lib.hid hO5
            have HOU := Lib.hid (show ((facesOf ds (i : Int)).take (j + 1)).foldl addNew out = out2 by rw [HTJ.out, List.foldl_append, HOUT4.out]; exact hadd)
            clear hb5 hk5 hO5 hadd
            go_wp2_with fail
            exact ⟨⟨j + 1, out2, by omega, by go_num, HOU.out, by omega, HO5.out, ⟨T5, HB5.out⟩, HK5.out⟩, by simp [intOf]; omega⟩
          | false =>
            have hadd : addNew out2 (n : Int) = out2 ++ [(n : Int)] := by unfold addNew; rw [hct]; rfl
            rw [hadd] at hb5
            have HB5 := Lib.hid hb5
            have HO5 := Lib.hid hO5
            have HOA := Lib.hid (hO5.alloc (.cells #[.int .i64 (n : Int)] 3))
            have HOU := Lib.hid (show ((facesOf ds (i : Int)).take (j + 1)).foldl addNew out = out2 ++ [(n : Int)] by rw [HTJ.out, List.foldl_append, HOUT4.out]; exact hadd)
            obtain ⟨i3, hi3, hz0, hz1, hz2⟩ := info_parts info3
            clear hb5 hk5 hO5 hadd
            go_wp2_with (at_builtin; refine wpList_append_sep _ rfl (.tmp 37) (.tmp 39) 32 rfl V2.heap.size 3 i3 (.int .i64 0) 1 8 Try.underlying32 hi3 hz0 hz1 hz2 rfl (by decide) u5 out2.length (out2.map iv) rfl HOA.out ⟨V5.heap.size, 0, none⟩ 1 1 [.int .i64 (n : Int)] rfl rfl ?c1 ?c2 ?c3 ?c4 ?c5 ?_)
            case c1 => exact lit_cells V5 #[.int .i64 (n : Int)] 3
            case c2 => intro u hu; simp only [List.mem_singleton] at hu; subst hu; rfl
            case c3 => unfold maxLen; omega
            case c4 => omega
            case c5 => simp; omega
            intro v6 w6 hown6 hgrow6 hsep6
            have hsz6 : V5.heap.size ≤ w6.heap.size := Nat.le_trans (by simp) hgrow6.size
            have hkeep : ∀ k, k < V5.heap.size → (u5).ownBlock ≠ some k → w6.heap[k]? = V5.heap[k]? := fun k hk hne => (hgrow6.block k (by first | omega | (simp; omega)) (fun h => hne h.symm)).trans (Below.heap_alloc _ _ _ hk)
            have HB6 := Lib.hid (HB5.out.overX (X' := XF X p q (.slice (some ⟨cb, co, none⟩) cl cc) v6) hsz6 (fun k hk hne => hkeep k hk (fun h => hne (.inr (.inr (.inr h))))) (fun k h => by
              rcases h with h | h | h | h
              · exact .inl (.inl h)
              · exact .inl (.inr (.inl h))
              · exact .inl (.inr (.inr (.inl h)))
              · rcases hsep6 k h with h | h
                · exact .inl (.inr (.inr (.inr h)))
                · exact .inr (by first | omega | (simp at h; omega))))
            have hk6 : Kp lo (XC X p q (.slice (some ⟨cb, co, none⟩) cl cc)) V5 w6 := ⟨hgrow6.os, hgrow6.tape, hgrow6.output, hsz6, fun k hk hx => hkeep k hk (fun ho => by
              have h1 := (own_type HO5.out ho).1
              rcases hx with h | (h | h) | rfl | rfl
              · omega
              · have := HX.out k h; omega
              · have := (own_type HO2.out h).2.1; omega
              · omega
              · omega)⟩
            have HK6 := Lib.hid (HK5.out.trans hk6)
            have HO6 := Lib.hid hown6
            clear hk6 hkeep hown6 hgrow6 hsep6 HOA hsz6
            go_wp2_with fail
            refine ⟨⟨j + 1, out2 ++ [(n : Int)], by omega, by go_num, HOU.out, by rw [List.length_append, List.length_singleton]; omega, ?_, ⟨T5, HB6.out⟩, HK6.out⟩, by simp [intOf]; omega⟩
            rw [List.length_append, List.map_append]
            exact HO6.out
        · obtain rfl : j = fl := by omega
          have hdone : (facesOf ds (i : Int)).foldl addNew out = out2 := by rw [← hout2, List.take_of_length_le (by omega)]
          have HBK := Lib.hid hbk2
          have HOU := Lib.hid (show ((C.take (k + 1)).flatMap (facesOf ds)).foldl addNew [] = out2 by rw [HTK.out, List.foldl_append, HOUT.out]; exact hdone)
          clear hbk2 hown2 hkp2 hout2 hdone
          go_wp2_with fail
          exact ⟨⟨k + 1, out2, by omega, by go_num, HOU.out, by omega, HO4.out, .inr ⟨N, R, B, F, T', HBK.out⟩, HKP4.out⟩, by simp [intOf]; omega⟩
    · obtain rfl : k = cl := by omega
      obtain rfl : out = G := by rw [← hout, List.take_of_length_le (by omega)]; exact HG.out
      have HBL := Lib.hid ((HK2.out.below hlW).trans (hkp.below (by have := HK2.out.size; omega)))
      clear hbk hown hkp hout hxw
      go_wp2_with fail
      go_returns
      exact ⟨u5, by simp, own_mono HOWN.out (by have := HK2.out.size; omega), HBL.out⟩
end

end Go.Proofs.Ytnjfbcoddbeggaa
