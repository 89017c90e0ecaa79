/-
  The document's reader: lists.
-/
import Derived.Test.YtoaohoeghlidaaaGreatDoorQRead
import Derived.Test.YtoaohoeghlidaaaGreatDoorRImg
namespace Go.Proofs.YtoaohoeghlidaaaGreatDoor
open Go.ChangeShapes Go.WideShapes Go.ChangeAt Go.RowKit

/-- a function of the document that reads one -/
def Qd (f : Nat) (mk : List Value → Value) {T : Type} {c : Codec T} (sh : Sh T) (d : Doc c) (ts : List TypeId) : Prop :=
  ∀ (B : List UInt8) (b : Nat) (s : Rst) (W : World), QAt W b B s →
    Calls Tryz.prog f #[.pointer (some ⟨b, 0, none⟩)] W fun e W' => ∃ vs, e = .returned (mk vs) ∧ sh.Is (SB W.heap.size ts W') W' vs (d.q B s).1 ∧ QAt W' b B (d.q B s).2 ∧ KFr b W W'
theorem qGo_one {T : Type} {one : Rst → T × Rst} {m : Nat} {acc : List T} {s : Rst} (hw : s.wrong = false) : qGo one (m + 1) acc s = qGo one m (acc ++ [(one s).1]) (one s).2 := by
  conv => lhs; unfold qGo
  rw [if_neg (by simp [hw])]
theorem qGo_bad {T : Type} {one : Rst → T × Rst} {m : Nat} {acc : List T} {s : Rst} (hw : s.wrong = true) : qGo one m acc s = (acc, s) := by
  cases m with
  | zero => rfl
  | succ m => unfold qGo; rw [if_pos hw]
theorem pair_q {A C : Type} {a : Codec A} {c : Codec C} {da : Doc a} {dc : Doc c} {B : List UInt8} {s t u : Rst} {x : A} {y : C} (h1 : da.q B s = (x, t)) (h2 : dc.q B t = (y, u)) : (dPair da dc).q B s = ((x, y), u) := by
  show (((da.q B s).1, (dc.q B (da.q B s).2).1), (dc.q B (da.q B s).2).2) = _
  rw [h1]
  simp only
  rw [h2]
theorem iso_q {A C : Type} {a : Codec A} {da : Doc a} {f : A → C} {g : C → A} {h h'} {B : List UInt8} {s t : Rst} {x : A} (h1 : da.q B s = (x, t)) : (dIso da f g h h').q B s = (f x, t) := by
  show (f (da.q B s).1, (da.q B s).2) = _
  rw [h1]
theorem flag_q {B : List UInt8} {s t : Rst} {x : Int} (h : rNum B s = (x, t)) : dFlag.q B s = (x == 1, t) := by
  show ((rNum B s).1 == 1, (rNum B s).2) = _
  rw [h]
theorem many_q {T : Type} {c : Codec T} {d : Doc c} {B : List UInt8} {s t : Rst} {n : Nat} {R : List T × Rst} (h1 : rCount B 1 s = (n, t)) (h2 : qGo (d.q B) n [] t = R) : (dList d).q B s = R := by
  show qGo (d.q B) (rCount B 1 s).1 [] (rCount B 1 s).2 = R
  rw [h1]
  exact h2

theorem Kp.sub {lo : Nat} {ts ts' : List TypeId} {W W' : World} (h : Kp lo ts W W') (ht : ∀ t, t ∈ ts' → t ∈ ts) : Kp lo ts' W W' := fun k cs t fz hk hc h' => h k cs t fz hk hc (ht t h')
theorem Kp.low {lo lo' : Nat} {ts : List TypeId} {W W' : World} (h : Kp lo ts W W') (hl : lo ≤ lo') : Kp lo' ts W W' := fun k cs t fz hk hc h' => h k cs t fz (Nat.le_trans hl hk) hc h'
theorem KFr.box {b : Nat} {W V : World} (h : KFr b W V) (z cs : Array Value) (t : TypeId) : KFr b W ((V.alloc (.cells z t)).setRow V.heap.size cs) := (h.alloc _).row h.size cs
theorem QAt.box {V : World} {b : Nat} {B : List UInt8} {s : Rst} (h : QAt V b B s) (z cs : Array Value) (t : TypeId) : QAt ((V.alloc (.cells z t)).setRow V.heap.size cs) b B s :=
  (h.alloc _).kept (fun k hk => setRow_other _ _ _ _ (by have := h.lt; omega))
theorem box_is (V : World) (z cs : Array Value) (t : TypeId) : ((V.alloc (.cells z t)).setRow V.heap.size cs).heap[V.heap.size]? = some (.cells cs t (0, 0)) := setRow_same cs (heap_alloc_new V _)
theorem QAt.set {W : World} {b : Nat} {B : List UInt8} {s : Rst} (h : QAt W b B s) {q o : Nat} (hq : b < q) (u : Value) : QAt (W.setCell ⟨q, o, none⟩ u) b B s := h.kept (fun k hk => setCell_rest _ _ _ _ (by simp; omega))

/-- a list that grows in memory -/
def Lst {T : Type} (sh : Sh T) (lo : Nat) (ty : TypeId) (ts : List TypeId) (W : World) (v : Value) (acc : List T) : Prop :=
  ∃ vss : List (List Value), vss.length = acc.length ∧ W.ownsRow lo ty sh.n v acc.length vss.flatten ∧ ∀ (i : Nat) (vs : List Value) (x : T), vss[i]? = some vs → acc[i]? = some x → sh.Is (SB lo ts W) W vs x
section
variable {T : Type} {sh : Sh T} {lo : Nat} {ty : TypeId} {ts : List TypeId} {W W' : World} {v : Value} {acc : List T}
theorem Lst.nil : Lst sh lo ty ts W (.slice none 0 0) [] := ⟨[], rfl, World.ownsRow_nil _ _ _ _, fun i _ _ h => by simp at h⟩
theorem Lst.kp (h : Lst sh lo ty ts W v acc) (hk : Kp lo (ty :: ts) W W') : Lst sh lo ty ts W' v acc := by
  obtain ⟨vss, h1, h2, h3⟩ := h
  refine ⟨vss, h1, ⟨h2.1, ?_⟩, fun i vs x hi hx => is_step (h3 i vs x hi hx) (hk.sub (fun _ h => List.mem_cons_of_mem _ h))⟩
  rcases h2.2 with h4 | ⟨g, cap, cur, hv, hg, hc, hr⟩
  · exact .inl h4
  · exact .inr ⟨g, cap, cur, hv, hg, (hk g _ _ _ hg hc List.mem_cons_self).trans hc, hr⟩
theorem Lst.kfr (h : Lst sh lo ty ts W v acc) {b : Nat} (hk : KFr b W W') (hb : b < lo) : Lst sh lo ty ts W' v acc := h.kp (Kp.of hk hb)
theorem Lst.form (h : Lst sh lo ty ts W v acc) : ∃ a c, v = .slice a acc.length c := by
  obtain ⟨vss, _, h2, _⟩ := h
  obtain ⟨a, l, c, h3, rfl⟩ := own_slice h2
  exact ⟨a, c, h3⟩
theorem Lst.row {a : Option Addr} {l c : Nat} (h : Lst sh lo ty ts W (.slice a l c) acc) (hl : l = acc.length) : Row sh (SB lo (ty :: ts) W) W a l acc := by
  subst hl
  obtain ⟨vss, h1, h2, h3⟩ := h
  exact row_of_own h2 h1 (fun i vs y hi hy => is_wide (h3 i vs y hi hy) (Nat.le_refl _) (fun u hu => List.mem_cons_of_mem _ hu)) (fun u hu => by
    obtain ⟨h4, _, cs, fz, h5⟩ := own_type h2 hu
    exact ⟨h4, cs, _, fz, h5, List.mem_cons_self⟩)
theorem Lst.push {vss : List (List Value)} (hvl : vss.length = acc.length) (hown : W.ownsRow lo ty sh.n v acc.length vss.flatten) (hIs : ∀ (i : Nat) (vs : List Value) (x : T), vss[i]? = some vs → acc[i]? = some x → sh.Is (SB lo ts W) W vs x)
    {vs : List Value} {x : T} (hx : sh.Is (SB lo ts W) W vs x) (hg : W.grownBy W' v.ownBlock) {v1 : Value} (ho : W'.ownsRow lo ty sh.n v1 (acc.length + 1) (vss.flatten ++ vs)) (hty : ty ∉ ts) : Lst sh lo ty ts W' v1 (acc ++ [x]) := by
  have hkp : Kp lo ts W W' := Kp.grown hg hown hty
  refine ⟨vss ++ [vs], by simp [hvl], ?_, fun i us y h1 h2 => ?_⟩
  · rw [List.length_append, List.flatten_append, List.flatten_singleton]
    exact ho
  · rcases Nat.lt_or_ge i vss.length with hi | hi
    · rw [List.getElem?_append_left (by omega)] at h1 h2
      exact is_step (hIs i us y h1 h2) hkp
    · rw [List.getElem?_append_right (by omega)] at h1 h2
      have hi0 : i - vss.length = 0 := by
        have := (List.getElem?_eq_some_iff.1 h1).1
        simp at this; omega
      rw [hi0] at h1
      rw [← hvl, hi0] at h2
      simp only [List.getElem?_cons_zero, Option.some.injEq] at h1 h2
      subst h1
      subst h2
      exact is_step hx hkp
end
theorem qd_num : Qd 53 mk1 shInt dNum [] := by
  intro B b s W h
  exact (qnumber_any B b s W h).mono fun e W' ⟨he, hr, hf⟩ => ⟨[.int .i64 (rNum B s).1], he, rfl, hr, hf⟩
theorem qd_text : Qd 46 mk1 shStr dText [] := by
  intro B b s W h
  exact (qtext_any B b s W h).mono fun e W' ⟨he, hr, hf⟩ => ⟨[.string (rText B s).1], he, rfl, hr, hf⟩
theorem size90 : (Tryz.prog.info? 90).map (·.size) = some 3 := by kernel_rfl
theorem info_Link : (Tryz.prog.info? 90).map (fun i => (i.zero, i.size, i.bytes)) = some (some (.agg #[.int .i64 0, .int .i64 0, .bool false]), 3, 24) := by kernel_rfl

set_option maxHeartbeats 1600000 in
set_option maxRecDepth 100000 in
theorem qd_nums : Qd 51 mk1 (shSlice shInt) (dList dNum) [3] := by
  intro B b s W h
  obtain ⟨i00, hi, hz0, hz1, hz2⟩ := info_parts info_Ints
  have hblt := h.lt
  have hc := qmany_any B b s W h
  have hcl := rCount_le B 1 s
  obtain ⟨⟨cnt, t0⟩, hx⟩ : ∃ r, rCount B 1 s = r := ⟨_, rfl⟩
  obtain ⟨R, hres⟩ : ∃ R, qGo (dNum.q B) cnt [] t0 = R := ⟨_, rfl⟩
  rw [many_q hx hres]
  rw [hx] at hc hcl
  simp only at hc hcl
  have HRES := Lib.hid hres
  clear h hres hx
  go_enter Tryz.func51, Tryz.ntmps51
  go_wp2_with (go_at_call 47; refine hc.mono ?_)
  rintro e W1 ⟨rfl, hr, hf⟩
  have HR := Lib.hid hr
  have HF := Lib.hid hf
  clear hr hf hc
  go_wp2_with fail
  go_loopw [3, 5] (fun v i wr => ∃ (k : Nat) (acc : List Int) (t : Rst), k ≤ cnt ∧ i = .int .i64 k ∧ acc.length = k ∧ Lst shInt W.heap.size 3 [] wr v acc ∧ QAt wr b B t ∧ KFr b W wr ∧ qGo (dNum.q B) (cnt - k) acc t = R) (fun _ i _ => cnt - (intOf i).toNat)
  case atStart => exact ⟨0, [], t0, Nat.zero_le _, rfl, rfl, Lst.nil, HR.out, HF.out, by rw [Nat.sub_zero]; exact HRES.out⟩
  case round =>
    clear HR HF
    obtain ⟨k, acc, t, hk, rfl, hal, hl, hr, hf, hgo⟩ := hrel
    obtain ⟨a9, n9, cap9, g0, g1, g2, g3, g4, -⟩ := hr.cells
    have HL := Lib.hid hl
    have HR := Lib.hid hr
    have HF := Lib.hid hf
    have HGO := Lib.hid hgo
    have HAL := Lib.hid hal
    clear hl hr hf hgo g0 g1 g3 g4 hal
    have hend : (k = cnt ∨ t.wrong = true) → R = (acc, t) := by
      rintro (rfl | hw)
      · have := HGO.out; rw [Nat.sub_self] at this; exact this.symm
      · rw [← HGO.out, qGo_bad hw]
    by_cases hlt : k < cnt
    · have i0 : (k : Int) < (cnt : Int) := by omega
      have hm : cnt - k = (cnt - (k + 1)) + 1 := by omega
      rw [hm] at HGO
      cases hw : t.wrong with
      | true =>
        rw [hw] at g2
        have HE := Lib.hid (hend (.inr hw))
        obtain ⟨a1, q2, rfl⟩ := HL.out.form
        clear hend hw
        go_wp2_with fail
        go_returns
        refine ⟨[.slice a1 acc.length q2], rfl, ?_⟩
        rw [HE.out]
        exact ⟨⟨a1, _, q2, rfl, HL.out.row rfl⟩, HR.out, HF.out⟩
      | false =>
        rw [hw] at g2
        have HW := Lib.hid hw
        have hH := qd_num B b t wr HR.out
        obtain ⟨⟨x, t1⟩, hx⟩ : ∃ r, dNum.q B t = r := ⟨_, rfl⟩
        rw [hx] at hH
        simp only at hH
        have HX := Lib.hid hx
        clear hw hx hend
        go_wp2_with (go_at_call 53; refine hH.mono ?_)
        rintro e W2 ⟨vs, rfl, hI, hr2, hf2⟩
        obtain rfl := int_is.1 hI
        have HR2 := Lib.hid hr2
        have HF2 := Lib.hid hf2
        have hsz := HF.out.size
        have hsz2 := hf2.size
        obtain ⟨vss, hvl, hown, hIs⟩ := (HL.out.kfr hf2 hblt).kp (Kp.alloc _ _ _ (.cells [.int .i64 x].toArray 3))
        have HVL := Lib.hid hvl
        have HO2 := Lib.hid (HAL.out ▸ hown)
        have HOW := Lib.hid hown
        have HIS := Lib.hid hIs
        clear hI hr2 hf2 hH g2 hown hIs hvl
        simp only [mk1, List.headD_cons]
        go_wp2_with (at_builtin; refine wpList_append_own _ rfl (.tmp 20) (.tmp 23) 25 rfl W.heap.size 3 i00 (.int .i64 0) 1 8 Tryz.underlying25 hi hz0 hz1 hz2 rfl (by decide) _ k vss.flatten rfl HO2.out ⟨W2.heap.size, 0, none⟩ 1 1 [.int .i64 x] rfl rfl ?c1 ?c2 ?c3 ?c4 ?c5 ?_)
        case c1 => exact lit_cells W2 [.int .i64 x].toArray 3
        case c2 => intro u hu; simp only [List.mem_cons, List.not_mem_nil, or_false] at hu; rcases hu with rfl <;> rfl
        case c3 => unfold maxLen; omega
        case c4 => omega
        case c5 => simp; omega
        intro v1 W3 hown1 hgrow1 _
        obtain ⟨q1, q2, rfl⟩ := Joins.ownsRow_form hown1 (by omega)
        have HL3 := Lib.hid (Lst.push HVL.out HOW.out HIS.out (vs := [.int .i64 x]) (x := x) rfl hgrow1 (by rw [HAL.out]; exact hown1) (by decide))
        have HF3 := Lib.hid (((HF.out.trans HF2.out).alloc (.cells [.int .i64 x].toArray 3)).grown hgrow1 HO2.out)
        have HR3 := Lib.hid ((HR2.out.alloc (.cells [.int .i64 x].toArray 3)).grown hblt hgrow1 HO2.out)
        clear hown1 hgrow1
        go_wp2_with fail
        refine ⟨⟨k + 1, acc ++ [x], t1, by omega, by go_num, by simp [HAL.out], HL3.out, HR3.out, HF3.out, ?_⟩, by simp [intOf]; omega⟩
        have hg := HGO.out
        rw [qGo_one HW.out, HX.out] at hg
        exact hg
    · obtain rfl : k = cnt := by omega
      have HE := Lib.hid (hend (.inl rfl))
      obtain ⟨a1, q2, rfl⟩ := HL.out.form
      clear hend
      go_wp2_with fail
      go_returns
      refine ⟨[.slice a1 acc.length q2], rfl, ?_⟩
      rw [HE.out]
      exact ⟨⟨a1, _, q2, rfl, HL.out.row rfl⟩, HR.out, HF.out⟩

set_option maxHeartbeats 1600000 in
set_option maxRecDepth 100000 in
theorem qd_texts : Qd 48 mk1 (shSlice shStr) (dList dText) [9] := by
  intro B b s W h
  obtain ⟨i00, hi, hz0, hz1, hz2⟩ := info_parts info_Texts
  have hblt := h.lt
  have hc := qmany_any B b s W h
  have hcl := rCount_le B 1 s
  obtain ⟨⟨cnt, t0⟩, hx⟩ : ∃ r, rCount B 1 s = r := ⟨_, rfl⟩
  obtain ⟨R, hres⟩ : ∃ R, qGo (dText.q B) cnt [] t0 = R := ⟨_, rfl⟩
  rw [many_q hx hres]
  rw [hx] at hc hcl
  simp only at hc hcl
  have HRES := Lib.hid hres
  clear h hres hx
  go_enter Tryz.func48, Tryz.ntmps48
  go_wp2_with (go_at_call 47; refine hc.mono ?_)
  rintro e W1 ⟨rfl, hr, hf⟩
  have HR := Lib.hid hr
  have HF := Lib.hid hf
  clear hr hf hc
  go_wp2_with fail
  go_loopw [3, 5] (fun v i wr => ∃ (k : Nat) (acc : List ByteArray) (t : Rst), k ≤ cnt ∧ i = .int .i64 k ∧ acc.length = k ∧ Lst shStr W.heap.size 9 [] wr v acc ∧ QAt wr b B t ∧ KFr b W wr ∧ qGo (dText.q B) (cnt - k) acc t = R) (fun _ i _ => cnt - (intOf i).toNat)
  case atStart => exact ⟨0, [], t0, Nat.zero_le _, rfl, rfl, Lst.nil, HR.out, HF.out, by rw [Nat.sub_zero]; exact HRES.out⟩
  case round =>
    clear HR HF
    obtain ⟨k, acc, t, hk, rfl, hal, hl, hr, hf, hgo⟩ := hrel
    obtain ⟨a9, n9, cap9, g0, g1, g2, g3, g4, -⟩ := hr.cells
    have HL := Lib.hid hl
    have HR := Lib.hid hr
    have HF := Lib.hid hf
    have HGO := Lib.hid hgo
    have HAL := Lib.hid hal
    clear hl hr hf hgo g0 g1 g3 g4 hal
    have hend : (k = cnt ∨ t.wrong = true) → R = (acc, t) := by
      rintro (rfl | hw)
      · have := HGO.out; rw [Nat.sub_self] at this; exact this.symm
      · rw [← HGO.out, qGo_bad hw]
    by_cases hlt : k < cnt
    · have i0 : (k : Int) < (cnt : Int) := by omega
      have hm : cnt - k = (cnt - (k + 1)) + 1 := by omega
      rw [hm] at HGO
      cases hw : t.wrong with
      | true =>
        rw [hw] at g2
        have HE := Lib.hid (hend (.inr hw))
        obtain ⟨a1, q2, rfl⟩ := HL.out.form
        clear hend hw
        go_wp2_with fail
        go_returns
        refine ⟨[.slice a1 acc.length q2], rfl, ?_⟩
        rw [HE.out]
        exact ⟨⟨a1, _, q2, rfl, HL.out.row rfl⟩, HR.out, HF.out⟩
      | false =>
        rw [hw] at g2
        have HW := Lib.hid hw
        have hH := qd_text B b t wr HR.out
        obtain ⟨⟨x, t1⟩, hx⟩ : ∃ r, dText.q B t = r := ⟨_, rfl⟩
        rw [hx] at hH
        simp only at hH
        have HX := Lib.hid hx
        clear hw hx hend
        go_wp2_with (go_at_call 46; refine hH.mono ?_)
        rintro e W2 ⟨vs, rfl, hI, hr2, hf2⟩
        obtain rfl := str_is.1 hI
        have HR2 := Lib.hid hr2
        have HF2 := Lib.hid hf2
        have hsz := HF.out.size
        have hsz2 := hf2.size
        obtain ⟨vss, hvl, hown, hIs⟩ := (HL.out.kfr hf2 hblt).kp (Kp.alloc _ _ _ (.cells [.string x].toArray 9))
        have HVL := Lib.hid hvl
        have HO2 := Lib.hid (HAL.out ▸ hown)
        have HOW := Lib.hid hown
        have HIS := Lib.hid hIs
        clear hI hr2 hf2 hH g2 hown hIs hvl
        simp only [mk1, List.headD_cons]
        go_wp2_with (at_builtin; refine wpList_append_own _ rfl (.tmp 20) (.tmp 23) 53 rfl W.heap.size 9 i00 (.string ⟨#[]⟩) 1 16 Tryz.underlying53 hi hz0 hz1 hz2 rfl (by decide) _ k vss.flatten rfl HO2.out ⟨W2.heap.size, 0, none⟩ 1 1 [.string x] rfl rfl ?c1 ?c2 ?c3 ?c4 ?c5 ?_)
        case c1 => exact lit_cells W2 [.string x].toArray 9
        case c2 => intro u hu; simp only [List.mem_cons, List.not_mem_nil, or_false] at hu; rcases hu with rfl <;> rfl
        case c3 => unfold maxLen; omega
        case c4 => omega
        case c5 => simp; omega
        intro v1 W3 hown1 hgrow1 _
        obtain ⟨q1, q2, rfl⟩ := Joins.ownsRow_form hown1 (by omega)
        have HL3 := Lib.hid (Lst.push HVL.out HOW.out HIS.out (vs := [.string x]) (x := x) rfl hgrow1 (by rw [HAL.out]; exact hown1) (by decide))
        have HF3 := Lib.hid (((HF.out.trans HF2.out).alloc (.cells [.string x].toArray 9)).grown hgrow1 HO2.out)
        have HR3 := Lib.hid ((HR2.out.alloc (.cells [.string x].toArray 9)).grown hblt hgrow1 HO2.out)
        clear hown1 hgrow1
        go_wp2_with fail
        refine ⟨⟨k + 1, acc ++ [x], t1, by omega, by go_num, by simp [HAL.out], HL3.out, HR3.out, HF3.out, ?_⟩, by simp [intOf]; omega⟩
        have hg := HGO.out
        rw [qGo_one HW.out, HX.out] at hg
        exact hg
    · obtain rfl : k = cnt := by omega
      have HE := Lib.hid (hend (.inl rfl))
      obtain ⟨a1, q2, rfl⟩ := HL.out.form
      clear hend
      go_wp2_with fail
      go_returns
      refine ⟨[.slice a1 acc.length q2], rfl, ?_⟩
      rw [HE.out]
      exact ⟨⟨a1, _, q2, rfl, HL.out.row rfl⟩, HR.out, HF.out⟩
end Go.Proofs.YtoaohoeghlidaaaGreatDoor
