/-
  Is one of another one?
-/
import Derived.Test.YtnjfbcoddbeggaaUof
import Derived.Deep.LoopGhost
namespace Go.Proofs.Ytnjfbcoddbeggaa
open Go Go.ChangeShapes Go.WideShapes Go.ChangeAt Go.RowKit Go.Joins

section
variable {ds : List DeclU} {lim lo : Nat} {X : Nat → Prop} {b : Nat} {a : Option Addr} {l c g1 g2 g3 : Nat} {t : Int} {met : List Int}
/-- a truth; the book goes on -/
inductive TPost (ds : List DeclU) (lim lo : Nat) (X : Nat → Prop) (W W' : World) (b : Nat) (a : Option Addr) (l c g1 g2 g3 : Nat) (β : Bool) (e : Ending) : Prop
  | mk (t' : Int) (met : List Int) (h1 : e = .returned (.bool β)) (h2 : BkAny ds lim lo X W' b a l c g1 g2 g3 t' met) (h3 : Kp lo X W W') (h4 : t' ≤ 950) : TPost ds lim lo X W W' b a l c g1 g2 g3 β e
/-- what has been gone along lies on the chain -/
theorem way_mem {ds : List DeclU} {d0 : Int} : ∀ (m : Nat) (out : List Int) (d : Int), m = ds.length + 1 - out.length → Way ds d0 out d → ∀ c ∈ out, c ∈ chainU ds d0 := by
  intro m
  induction m with
  | zero => intro out d hm h; have := h.len; omega
  | succ m ih =>
    intro out d hm h c hc
    by_cases h1 : (hasU ds d 2 && !out.contains d) = true
    · rw [Bool.and_eq_true] at h1
      exact ih _ _ (by rw [List.length_append]; simp; omega) (h.step h1.1 (by simpa using h1.2)) c (List.mem_append_left _ hc)
    · rw [h.done (by simpa using h1)]; exact hc
/-- what is asked along the chain, as far as it has been gone -/
theorem any_snoc {f : Int → Bool} {out : List Int} {d : Int} (h : out.any f = false) (hd : f d = false) : (out ++ [d]).any f = false := by rw [List.any_append, h]; simp [hd]

set_option maxHeartbeats 3200000 in
set_option maxRecDepth 100000 in
theorem comes_any (W : World) (h : BkAny ds lim lo X W b a l c g1 g2 g3 t met) (ht : t ≤ 900) (hx : ∀ k, X k → k < W.heap.size) (d : Int) (s u : ByteArray) (β : Bool)
    (hβ : β = (decide (0 ≤ d) && (decide (s = u) || comesU ds d (findU ds u)))) :
    Calls Try.prog 77 #[.pointer (some ⟨b, 0, none⟩), .int .i64 d, .string s, .string u] W fun e W' => TPost ds lim lo X W W' b a l c g1 g2 g3 β e := by
  have ht0 := h.bk.1.turn.1
  have H := Lib.hid h
  have HXW := Lib.hid hx
  cases h0 : decide (d < 0) with
  | true =>
    have hb0 : β = false := by rw [hβ, decide_eq_false (by have := of_decide_eq_true h0; omega)]; rfl
    have hge : decide ((0 : Int) ≤ d) = false := decide_eq_false (by have := of_decide_eq_true h0; omega)
    subst hb0
    clear h hx hβ
    go_enter Try.func77, Try.ntmps77
    go_wp2_with fail
    go_returns
    exact ⟨t, met, by simp, H.out, Kp.refl _ _ _, by omega⟩
  | false =>
  have hge : decide ((0 : Int) ≤ d) = true := decide_eq_true (by have := of_decide_eq_false h0; omega)
  rw [hge, Bool.true_and] at hβ
  by_cases hsu : s = u
  · have t1 := str_yes hsu
    rw [decide_eq_true hsu, Bool.true_or] at hβ
    subst hβ
    clear h hx hsu
    go_enter Try.func77, Try.ntmps77
    go_wp2_with fail
    go_returns
    exact ⟨t, met, by simp, H.out, Kp.refl _ _ _, by omega⟩
  · have t1 := str_no hsu
    rw [decide_eq_false hsu, Bool.false_or] at hβ
    obtain ⟨hbk0, ⟨nv, hblk⟩, hbs⟩ := h.bk
    have cw : W.cell? ⟨b, 0, none⟩ = some (.slice a l c) := by rw [Lib.cell_of_heap hblk]; rfl
    have h99 := bfind_any _ W b _ l c ds cw hbk0.row hbk0.few u
    obtain ⟨f, hf⟩ : ∃ f, findU ds u = f := ⟨_, rfl⟩
    rw [hf] at h99 hβ
    have HB := Lib.hid hβ
    clear hβ
    have h2 := has_any _ W b _ l c ds cw hbk0.row f 2
    have h1 := has_any _ W b _ l c ds cw hbk0.row f 1
    have hbg := begin_any W h ht
    clear h hx hsu cw hblk hbk0
    go_enter Try.func77, Try.ntmps77
    go_wp2_with (go_at_call 99; refine h99.mono ?_)
    rintro e w1 ⟨rfl, rfl⟩
    clear h99 hf
    cases k2 : hasU ds f 2 with
    | false =>
      rw [k2] at h2
      go_wp2_with (go_at_call 76; refine h2.mono ?_)
      rintro e w2 ⟨rfl, rfl⟩
      cases k1 : hasU ds f 1 with
      | false =>
        rw [k1] at h1
        have hb0 : β = false := by rw [HB.out, comes_none k2 k1]
        subst hb0
        go_wp2_with (go_at_call 76; refine h1.mono ?_)
        rintro e w3 ⟨rfl, rfl⟩
        clear h2 h1 hbg
        go_wp2_with fail
        go_returns
        exact ⟨t, met, by simp, H.out, Kp.refl _ _ _, by omega⟩
      | true =>
        rw [k1] at h1
        go_wp2_with (go_at_call 76; refine h1.mono ?_)
        rintro e w3 ⟨rfl, rfl⟩
        clear h2 h1 k2 k1
        go_wp2_with (go_at_call 74; refine hbg.mono ?_)
        rintro e W1 ⟨p, q, rfl, hb, hk, hp, hq, p0, q0, p1, q1, -⟩
        clear hbg
        have HK1 := Lib.hid hk
        have HP1 := Lib.hid hp
        have HQ1 := Lib.hid hq
        have hs1 := hk.size
        go_wp2_with fail
        go_loopg [1] (l + 1) (fun gn dv wr => ∃ (dd : Int) (out : List Int), gn + out.length = l + 1 ∧ dv = .int .i64 dd ∧ Way ds d out dd ∧ (out.any fun c => c == f || (facesOf ds c).contains f) = false ∧ BkAny ds lim lo (fun k => X k ∨ k = p ∨ k = q) wr b a l c g1 g2 g3 (t + 1) out ∧ Kp lo (fun k => X k ∨ k = p ∨ k = q) W1 wr)
        case atStart => exact ⟨d, [], rfl, rfl, Way.init ds d, rfl, hb, Kp.refl _ _ _⟩
        case round =>
          obtain ⟨dd, out, hgn, rfl, hway, hno, hbk, hkp⟩ := hrel
          clear hb hk hp hq
          obtain ⟨hbk0, ⟨nv, hblk⟩, hbs⟩ := hbk.bk
          have cw : wr.cell? ⟨b, 0, none⟩ = some (.slice a l c) := by rw [Lib.cell_of_heap hblk]; rfl
          have hxw : ∀ k, (X k ∨ k = p ∨ k = q) → k < wr.heap.size := fun k h => by
            have := hkp.size
            rcases h with h | rfl | rfl
            · have := HXW.out k h; omega
            · omega
            · omega
          have hhs := has_any _ wr b _ l c ds cw hbk0.row dd 2
          have HWAY := Lib.hid hway
          have HNO := Lib.hid hno
          have HKP := Lib.hid hkp
          have HGN := Lib.hid hgn
          have hdl := hbk0.row.1
          clear hway hkp hblk hno hgn
          cases hd : hasU ds dd 2 with
          | false =>
            rw [hd] at hhs
            have hb0 : β = false := by rw [HB.out]; unfold comesU; rw [HWAY.out.done (by rw [hd]; rfl)]; exact HNO.out
            have HBK := Lib.hid hbk
            subst hb0
            clear hbk hxw
            go_wp2_with (go_at_call 76; refine hhs.mono ?_)
            rintro e w5 ⟨rfl, rfl⟩
            clear hhs
            go_wp2_with fail
            go_returns
            exact ⟨t + 1, out, by simp, HBK.out.turnX (fun k h => .inl (.inl h)), HK1.out.trans (HKP.out.sub (fun k _ h => .inl (.inl h))), by omega⟩
          | true =>
            rw [hd] at hhs
            obtain ⟨i, x, rfl, hix, hkx⟩ := has_spec.1 hd
            have hil : i < l := by have := (List.getElem?_eq_some_iff.1 hix).1; omega
            have hpw : wr.cell? ⟨p, 0, none⟩ = some (.pointer (some ⟨b, 0, none⟩)) := (World.cell?_of_block (a := ⟨p, 0, none⟩) (HKP.out.block p p1 (.inr (.inr (.inl rfl))))).trans HP1.out
            have hqw : wr.cell? ⟨q, 0, none⟩ = some (.int .i64 (t + 1)) := (World.cell?_of_block (a := ⟨q, 0, none⟩) (HKP.out.block q q1 (.inr (.inr (.inr rfl))))).trans HQ1.out
            have hft := first_any wr hbk (by omega) hxw i hil p q hpw hqw (.inr (.inr rfl))
            clear hbk hix hkx
            go_wp2_with (go_at_call 76; refine hhs.mono ?_)
            rintro e w5 ⟨rfl, rfl⟩
            go_wp2_with (go_at_call 97; refine hft.mono ?_)
            rintro e w6 ⟨rfl, hb6, hk6⟩
            clear hhs hft hpw hqw cw
            cases hct : out.contains (i : Int) with
            | true =>
              have hb0 : β = false := by rw [HB.out]; unfold comesU; rw [HWAY.out.done (by rw [hd, hct]; rfl)]; exact HNO.out
              have HB6 := Lib.hid hb6
              have HK6 := Lib.hid hk6
              subst hb0
              clear hb6 hk6 hxw
              go_wp2_with fail
              go_returns
              exact ⟨t + 1, _, by simp, HB6.out.turnX (fun k h => .inl (.inl h)), (HK1.out.trans (HKP.out.sub (fun k _ h => .inl (.inl h)))).trans (HK6.out.sub (fun k _ h => .inl (.inl h))), by omega⟩
            | false =>
              have hadd : addNew out (i : Int) = out ++ [(i : Int)] := by unfold addNew; rw [hct]; rfl
              rw [hadd] at hb6
              have hsz6 := hk6.size
              have hrl := relate_any w6 hb6 (by omega) (fun k h => Nat.lt_of_lt_of_le (hxw k h) hsz6) i hil
              have HK6 := Lib.hid (HKP.out.trans hk6)
              have HST := Lib.hid (HWAY.out.step hd hct)
              have hol := HST.out.len
              rw [List.length_append, List.length_singleton] at hol
              clear hb6 hk6 hadd hsz6 hxw
              go_wp2_with (go_at_call 75; refine hrl.mono ?_)
              rintro e w7 ⟨N, R, B, F, T, rfl, hb7, hRi, hk7⟩
              clear hrl
              obtain ⟨hBi, fa, fl, fc, hFi, hfrow⟩ := (hb7.ok i hil).2 hRi
              have n1 := hb7.notes.c1 i hil
              have n2 := hb7.notes.c2 i hil
              rw [hBi] at n1
              rw [hFi] at n2
              have hcon := contains_any _ w7 fa fl fc _ hfrow f
              have HB7 := Lib.hid hb7
              have HK7 := Lib.hid (HK6.out.trans hk7)
              clear hb7 hk7 hfrow hFi hBi hRi
              have hin := way_mem _ _ _ rfl HST.out (i : Int) (by simp)
              have HIN := Lib.hid hin
              clear hin
              cases hdf : ((i : Int) == f) with
              | true =>
                have hb1 : β = true := by rw [HB.out]; unfold comesU; rw [List.any_eq_true]; exact ⟨i, HIN.out, by rw [hdf]; rfl⟩
                subst hb1
                clear hcon
                go_wp2_with fail
                go_returns
                exact ⟨t + 1, _, by simp, (show BkAny _ _ _ _ _ _ _ _ _ _ _ _ _ _ from .inr ⟨N, R, B, F, T, HB7.out⟩).turnX (fun k h => .inl (.inl h)), HK1.out.trans (HK7.out.sub (fun k _ h => .inl (.inl h))), by omega⟩
              | false =>
              cases hfc : (facesOf ds (i : Int)).contains f with
              | true =>
                have hb1 : β = true := by rw [HB.out]; unfold comesU; rw [List.any_eq_true]; exact ⟨i, HIN.out, by rw [hfc, Bool.or_true]⟩
                rw [hfc] at hcon
                subst hb1
                go_wp2_with (go_at_call 100; refine hcon.mono ?_)
                rintro e w8 ⟨rfl, rfl⟩
                clear hcon
                go_wp2_with fail
                go_returns
                exact ⟨t + 1, _, by simp, (show BkAny _ _ _ _ _ _ _ _ _ _ _ _ _ _ from .inr ⟨N, R, B, F, T, HB7.out⟩).turnX (fun k h => .inl (.inl h)), HK1.out.trans (HK7.out.sub (fun k _ h => .inl (.inl h))), by omega⟩
              | false =>
                rw [hfc] at hcon
                have HNO2 := Lib.hid (any_snoc (f := fun c => c == f || (facesOf ds c).contains f) HNO.out (show ((i : Int) == f || (facesOf ds (i : Int)).contains f) = false by rw [hdf, hfc]; rfl))
                have hgk := HGN.out
                go_wp2_with (go_at_call 100; refine hcon.mono ?_)
                rintro e w8 ⟨rfl, rfl⟩
                clear hcon
                go_wp2_with fail
                go_roundg (gk - 1)
                case measure => omega
                case rel => exact ⟨_, out ++ [(i : Int)], by rw [List.length_append, List.length_singleton]; omega, rfl, HST.out, HNO2.out, .inr ⟨N, R, B, F, T, HB7.out⟩, HK7.out⟩
    | true =>
      rw [k2] at h2
      go_wp2_with (go_at_call 76; refine h2.mono ?_)
      rintro e w2 ⟨rfl, rfl⟩
      clear h2 h1 k2
      go_wp2_with (go_at_call 74; refine hbg.mono ?_)
      rintro e W1 ⟨p, q, rfl, hb, hk, hp, hq, p0, q0, p1, q1, -⟩
      clear hbg
      have HK1 := Lib.hid hk
      have HP1 := Lib.hid hp
      have HQ1 := Lib.hid hq
      have hs1 := hk.size
      go_wp2_with fail
      go_loopg [1] (l + 1) (fun gn dv wr => ∃ (dd : Int) (out : List Int), gn + out.length = l + 1 ∧ dv = .int .i64 dd ∧ Way ds d out dd ∧ (out.any fun c => c == f || (facesOf ds c).contains f) = false ∧ BkAny ds lim lo (fun k => X k ∨ k = p ∨ k = q) wr b a l c g1 g2 g3 (t + 1) out ∧ Kp lo (fun k => X k ∨ k = p ∨ k = q) W1 wr)
      case atStart => exact ⟨d, [], rfl, rfl, Way.init ds d, rfl, hb, Kp.refl _ _ _⟩
      case round =>
        obtain ⟨dd, out, hgn, rfl, hway, hno, hbk, hkp⟩ := hrel
        clear hb hk hp hq
        obtain ⟨hbk0, ⟨nv, hblk⟩, hbs⟩ := hbk.bk
        have cw : wr.cell? ⟨b, 0, none⟩ = some (.slice a l c) := by rw [Lib.cell_of_heap hblk]; rfl
        have hxw : ∀ k, (X k ∨ k = p ∨ k = q) → k < wr.heap.size := fun k h => by
          have := hkp.size
          rcases h with h | rfl | rfl
          · have := HXW.out k h; omega
          · omega
          · omega
        have hhs := has_any _ wr b _ l c ds cw hbk0.row dd 2
        have HWAY := Lib.hid hway
        have HNO := Lib.hid hno
        have HKP := Lib.hid hkp
        have HGN := Lib.hid hgn
        have hdl := hbk0.row.1
        clear hway hkp hblk hno hgn
        cases hd : hasU ds dd 2 with
        | false =>
          rw [hd] at hhs
          have hb0 : β = false := by rw [HB.out]; unfold comesU; rw [HWAY.out.done (by rw [hd]; rfl)]; exact HNO.out
          have HBK := Lib.hid hbk
          subst hb0
          clear hbk hxw
          go_wp2_with (go_at_call 76; refine hhs.mono ?_)
          rintro e w5 ⟨rfl, rfl⟩
          clear hhs
          go_wp2_with fail
          go_returns
          exact ⟨t + 1, out, by simp, HBK.out.turnX (fun k h => .inl (.inl h)), HK1.out.trans (HKP.out.sub (fun k _ h => .inl (.inl h))), by omega⟩
        | true =>
          rw [hd] at hhs
          obtain ⟨i, x, rfl, hix, hkx⟩ := has_spec.1 hd
          have hil : i < l := by have := (List.getElem?_eq_some_iff.1 hix).1; omega
          have hpw : wr.cell? ⟨p, 0, none⟩ = some (.pointer (some ⟨b, 0, none⟩)) := (World.cell?_of_block (a := ⟨p, 0, none⟩) (HKP.out.block p p1 (.inr (.inr (.inl rfl))))).trans HP1.out
          have hqw : wr.cell? ⟨q, 0, none⟩ = some (.int .i64 (t + 1)) := (World.cell?_of_block (a := ⟨q, 0, none⟩) (HKP.out.block q q1 (.inr (.inr (.inr rfl))))).trans HQ1.out
          have hft := first_any wr hbk (by omega) hxw i hil p q hpw hqw (.inr (.inr rfl))
          clear hbk hix hkx
          go_wp2_with (go_at_call 76; refine hhs.mono ?_)
          rintro e w5 ⟨rfl, rfl⟩
          go_wp2_with (go_at_call 97; refine hft.mono ?_)
          rintro e w6 ⟨rfl, hb6, hk6⟩
          clear hhs hft hpw hqw cw
          cases hct : out.contains (i : Int) with
          | true =>
            have hb0 : β = false := by rw [HB.out]; unfold comesU; rw [HWAY.out.done (by rw [hd, hct]; rfl)]; exact HNO.out
            have HB6 := Lib.hid hb6
            have HK6 := Lib.hid hk6
            subst hb0
            clear hb6 hk6 hxw
            go_wp2_with fail
            go_returns
            exact ⟨t + 1, _, by simp, HB6.out.turnX (fun k h => .inl (.inl h)), (HK1.out.trans (HKP.out.sub (fun k _ h => .inl (.inl h)))).trans (HK6.out.sub (fun k _ h => .inl (.inl h))), by omega⟩
          | false =>
            have hadd : addNew out (i : Int) = out ++ [(i : Int)] := by unfold addNew; rw [hct]; rfl
            rw [hadd] at hb6
            have hsz6 := hk6.size
            have hrl := relate_any w6 hb6 (by omega) (fun k h => Nat.lt_of_lt_of_le (hxw k h) hsz6) i hil
            have HK6 := Lib.hid (HKP.out.trans hk6)
            have HST := Lib.hid (HWAY.out.step hd hct)
            have hol := HST.out.len
            rw [List.length_append, List.length_singleton] at hol
            clear hb6 hk6 hadd hsz6 hxw
            go_wp2_with (go_at_call 75; refine hrl.mono ?_)
            rintro e w7 ⟨N, R, B, F, T, rfl, hb7, hRi, hk7⟩
            clear hrl
            obtain ⟨hBi, fa, fl, fc, hFi, hfrow⟩ := (hb7.ok i hil).2 hRi
            have n1 := hb7.notes.c1 i hil
            have n2 := hb7.notes.c2 i hil
            rw [hBi] at n1
            rw [hFi] at n2
            have hcon := contains_any _ w7 fa fl fc _ hfrow f
            have HB7 := Lib.hid hb7
            have HK7 := Lib.hid (HK6.out.trans hk7)
            clear hb7 hk7 hfrow hFi hBi hRi
            have hin := way_mem _ _ _ rfl HST.out (i : Int) (by simp)
            have HIN := Lib.hid hin
            clear hin
            cases hdf : ((i : Int) == f) with
            | true =>
              have hb1 : β = true := by rw [HB.out]; unfold comesU; rw [List.any_eq_true]; exact ⟨i, HIN.out, by rw [hdf]; rfl⟩
              subst hb1
              clear hcon
              go_wp2_with fail
              go_returns
              exact ⟨t + 1, _, by simp, (show BkAny _ _ _ _ _ _ _ _ _ _ _ _ _ _ from .inr ⟨N, R, B, F, T, HB7.out⟩).turnX (fun k h => .inl (.inl h)), HK1.out.trans (HK7.out.sub (fun k _ h => .inl (.inl h))), by omega⟩
            | false =>
            cases hfc : (facesOf ds (i : Int)).contains f with
            | true =>
              have hb1 : β = true := by rw [HB.out]; unfold comesU; rw [List.any_eq_true]; exact ⟨i, HIN.out, by rw [hfc, Bool.or_true]⟩
              rw [hfc] at hcon
              subst hb1
              go_wp2_with (go_at_call 100; refine hcon.mono ?_)
              rintro e w8 ⟨rfl, rfl⟩
              clear hcon
              go_wp2_with fail
              go_returns
              exact ⟨t + 1, _, by simp, (show BkAny _ _ _ _ _ _ _ _ _ _ _ _ _ _ from .inr ⟨N, R, B, F, T, HB7.out⟩).turnX (fun k h => .inl (.inl h)), HK1.out.trans (HK7.out.sub (fun k _ h => .inl (.inl h))), by omega⟩
            | false =>
              rw [hfc] at hcon
              have HNO2 := Lib.hid (any_snoc (f := fun c => c == f || (facesOf ds c).contains f) HNO.out (show ((i : Int) == f || (facesOf ds (i : Int)).contains f) = false by rw [hdf, hfc]; rfl))
              have hgk := HGN.out
              go_wp2_with (go_at_call 100; refine hcon.mono ?_)
              rintro e w8 ⟨rfl, rfl⟩
              clear hcon
              go_wp2_with fail
              go_roundg (gk - 1)
              case measure => omega
              case rel => exact ⟨_, out ++ [(i : Int)], by rw [List.length_append, List.length_singleton]; omega, rfl, HST.out, HNO2.out, .inr ⟨N, R, B, F, T, HB7.out⟩, HK7.out⟩
end

end Go.Proofs.Ytnjfbcoddbeggaa
