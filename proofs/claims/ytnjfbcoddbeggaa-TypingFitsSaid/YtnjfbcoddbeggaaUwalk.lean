/-
  The chain of a class.
-/
import Derived.Test.YtnjfbcoddbeggaaUrel
import Derived.ArgAppend
namespace Go.Proofs.Ytnjfbcoddbeggaa
open Go Go.ChangeShapes Go.WideShapes Go.ChangeAt Go.RowKit Go.Joins

section
variable {P : Program}
/-- append to a row of one's own: the row that comes of it is the old one's block, or a new one -/
theorem wpList_append_sep (w : World) {ops : Array Oper} {rest : List Oper} {o : Oper} {a : Act} {Q : Exit → Act → World → Prop} (hgd : o.guard = none) (s x : Operand) (t : TypeId)
    (ho : o.op = .call { callee := .builtin .append, args := #[s, x], argTypes := #[t, t] })
    (base : Nat) (e : TypeId) (i : TypeInfo) (z : Value) (size bytes : Nat) (ht : P.underlying t = some (.slice e)) (hi : P.info? e = some i) (hz : i.zero = some z)
    (hsize : i.size = size) (hby : i.bytes = bytes) (hzs : z.cells.size = size) (hsz : 0 < size)
    (v : Value) (n : Nat) (xs : List Value) (hs : a.eval s = v) (hown : w.ownsRow base e size v n xs)
    (ad : Addr) (m c : Nat) (news : List Value) (hx : a.eval x = .slice (some ad) m c) (hl : news.length = m * size) (hnews : ∀ j u, news[j]? = some u → w.cell? (ad.add j) = some u) (h1 : ∀ u ∈ news, u.oneCell' = true)
    (h63 : n + m ≤ maxLen) (hbytes : (n + m) * bytes ≤ 140737488355328) (hbase : base ≤ w.heap.size)
    (h : ∀ v' w', w'.ownsRow base e size v' (n + m) (xs ++ news) → w.grownBy w' v.ownBlock → (∀ k, v'.ownBlock = some k → v.ownBlock = some k ∨ w.heap.size ≤ k) → wpList P ops Q rest (a.put o.dst v') w') : wpList P ops Q (o :: rest) a w := by
  obtain ⟨v', w', hr, h2, h3, _⟩ := run_append_own (P := P) w base t o.type e i z size bytes ht hi hz hsize hby hzs hsz v n xs hown ad m c news hl hnews h1 h63 hbytes hbase
  have hsep : ∀ k, v'.ownBlock = some k → v.ownBlock = some k ∨ w.heap.size ≤ k := by
    intro k hk
    rcases hown.2 with ⟨rfl, rfl⟩ | ⟨g, cap, cur, rfl, hbg, hg, hnc, hcm, hcs, htake⟩
    · have hx : xs = [] := List.eq_nil_of_length_eq_zero (by simpa using hown.1)
      subst hx
      obtain ⟨v2, w2, hr2, k2, _⟩ := run_append_own (P := P) w w.heap.size t o.type e i z size bytes ht hi hz hsize hby hzs hsz (.slice none 0 0) 0 [] (World.ownsRow_nil w _ e size) ad m c news hl hnews h1 h63 hbytes (Nat.le_refl _)
      rw [hr] at hr2
      cases hr2
      exact .inr (own_type k2 hk).1
    · by_cases hroom : n + m ≤ cap
      · subst hsize
        have hfit : n * i.size + news.length ≤ cur.size := by rw [hl, hcs, ← Nat.add_mul]; exact Nat.mul_le_mul_right _ hroom
        have hr2 := run_append_room (P := P) w t o.type e i ht hi g n cap cur hg ad m c news hl hnews h1 hroom hfit
        rw [hr] at hr2
        cases hr2
        exact .inl hk
      · have holds : ∀ j u, xs[j]? = some u → w.cell? ((⟨g, 0, none⟩ : Addr).add j) = some u := hown.cells (g := g) rfl
        obtain ⟨v2, w2, hr2, k2, _⟩ := run_append_arg_grows (P := P) w t o.type e i z size bytes ht hi hz hsize hby hzs hsz ⟨g, 0, none⟩ n cap xs hown.1 holds ad m c news hl hnews (by omega) h63 hbytes
        rw [hr] at hr2
        cases hr2
        exact .inr (own_type k2 hk).1
  refine wpList_plain hgd fun K' hK => ?_
  unfold Oper.wp execOp
  simp only [ho, resolve, invoke, builtin, Sem.run_bind, Sem.run_pure, Result.andThen_ok, List.map_toArray, List.map_cons, List.map_nil, hs, hx, hr]
  exact hK _ _ (h v' w' h2 h3 hsep)
end
theorem own_keep1 {w w' : World} {base size n : Nat} {e : TypeId} {v : Value} {xs : List Value} (h : w.ownsRow base e size v n xs) (hk : ∀ k, v.ownBlock = some k → w'.heap[k]? = w.heap[k]?) : w'.ownsRow base e size v n xs := by
  refine ⟨h.1, ?_⟩
  rcases h.2 with h1 | ⟨g, cap, cur, hv, hg, hc, hr⟩
  · exact .inl h1
  · exact .inr ⟨g, cap, cur, hv, hg, (hk g (by rw [hv]; rfl)).trans hc, hr⟩
theorem own_mono {w : World} {base base' size n : Nat} {e : TypeId} {v : Value} {xs : List Value} (h : w.ownsRow base e size v n xs) (hb : base' ≤ base) : w.ownsRow base' e size v n xs := by
  refine ⟨h.1, ?_⟩
  rcases h.2 with h1 | ⟨g, cap, cur, hv, hg, hr⟩
  · exact .inl h1
  · exact .inr ⟨g, cap, cur, hv, Nat.le_trans hb hg, hr⟩
def lenV : Value → Nat
  | .slice _ n _ => n
  | _ => 0
theorem lenV_own {w : World} {base size n : Nat} {e : TypeId} {v : Value} {xs : List Value} (h : w.ownsRow base e size v n xs) : lenV v = n := by
  rcases ownsRow_forms h with ⟨rfl, rfl⟩ | ⟨g, cap, rfl⟩ <;> rfl
/-- the caller's, two boxes, and a row -/
def XW (X : Nat → Prop) (p q : Nat) (v : Value) : Nat → Prop := fun k => X k ∨ k = p ∨ k = q ∨ v.ownBlock = some k
section
variable {ds : List DeclU} {lim lo : Nat} {X : Nat → Prop} {b : Nat} {a : Option Addr} {l c g1 g2 g3 : Nat} {t : Int} {met : List Int}
/-- a row of numbers of one's own -/
inductive LPost (ds : List DeclU) (lim lo : Nat) (X : Nat → Prop) (W W' : World) (b : Nat) (a : Option Addr) (l c g1 g2 g3 : Nat) (t : Int) (xs : List Int) (e : Ending) : Prop
  | mk (v : Value) (met : List Int) (h1 : e = .returned v) (h2 : W'.ownsRow W.heap.size 3 1 v xs.length (xs.map iv)) (h3 : BkAny ds lim lo (fun k => X k ∨ v.ownBlock = some k) W' b a l c g1 g2 g3 t met) (h4 : Kp lo X W W') : LPost ds lim lo X W W' b a l c g1 g2 g3 t xs e

set_option maxHeartbeats 3200000 in
set_option maxRecDepth 100000 in
theorem walk_any (W : World) (h : BkAny ds lim lo X W b a l c g1 g2 g3 t met) (ht : t ≤ 900) (hx : ∀ k, X k → k < W.heap.size) (d : Int) :
    Calls Try.prog 73 #[.pointer (some ⟨b, 0, none⟩), .int .i64 d] W fun e W' => LPost ds lim lo X W W' b a l c g1 g2 g3 (t + 1) (chainU ds d) e := by
  have hbg := begin_any W h ht
  have ht0 := h.bk.1.turn
  have HXW := Lib.hid hx
  clear h hx
  obtain ⟨C, hC⟩ : ∃ C, chainU ds d = C := ⟨_, rfl⟩
  rw [hC]
  have HC := Lib.hid hC
  clear hC
  go_enter Try.func73, Try.ntmps73
  go_wp2_with (go_at_call 74; refine hbg.mono ?_)
  rintro e W1 ⟨p, q, rfl, hb, hk, hp, hq, p0, q0, p1, q1, -⟩
  clear hbg
  have HK1 := Lib.hid hk
  have HP1 := Lib.hid hp
  have HQ1 := Lib.hid hq
  have hs1 := hk.size
  have HW1 := Lib.hid (show lo ≤ W1.heap.size by have := hb.bk.1.lob; have := hb.bk.2.2; omega)
  go_wp2_with fail
  go_loopw [1, 5] (fun dv cv wr => ∃ (dd : Int) (out : List Int), dv = .int .i64 dd ∧ Way ds d out dd ∧ wr.ownsRow W1.heap.size 3 1 cv out.length (out.map iv) ∧ BkAny ds lim lo (XW X p q cv) wr b a l c g1 g2 g3 (t + 1) out ∧ Kp lo (fun k => X k ∨ k = p ∨ k = q) W1 wr) (fun _ cv _ => ds.length + 1 - lenV cv)
  case atStart => exact ⟨d, [], rfl, Way.init ds d, World.ownsRow_nil _ _ _ _, hb.turnX (fun k h => by
    rcases h with h | h | h | h
    · exact .inl (.inl h)
    · exact .inl (.inr (.inl h))
    · exact .inl (.inr (.inr h))
    · cases h), Kp.refl _ _ _⟩
  case round =>
    obtain ⟨dd, out, rfl, hway, hown, hbk, hkp⟩ := hrel
    clear hb
    obtain ⟨hbk0, ⟨nv, hblk⟩, hbs⟩ := hbk.bk
    have cw : wr.cell? ⟨b, 0, none⟩ = some (.slice a l c) := by rw [Lib.cell_of_heap hblk]; rfl
    have hxw : ∀ k, XW X p q u5 k → k < wr.heap.size := fun k h => by
      have := hkp.size
      rcases h with h | rfl | rfl | h
      · have := HXW.out k h; omega
      · omega
      · omega
      · exact (own_type hown h).2.1
    have hhs := has_any _ wr b _ l c ds cw hbk0.row dd 2
    have HWAY := Lib.hid hway
    have HOWN := Lib.hid hown
    have HKP := Lib.hid hkp
    have hln := lenV_own hown
    have hdl := hbk0.row.1
    have hfw := hbk0.few
    clear hway hown hkp hblk
    cases hd : hasU ds dd 2 with
    | false =>
      rw [hd] at hhs
      obtain rfl : out = C := (HWAY.out.done (by rw [hd]; rfl)).symm.trans HC.out
      have HBK := Lib.hid hbk
      clear hbk hxw
      go_wp2_with (go_at_call 76; refine hhs.mono ?_)
      rintro e w1 ⟨rfl, rfl⟩
      clear hhs
      go_wp2_with fail
      go_returns
      exact ⟨u5, out, by simp, own_mono HOWN.out hs1, HBK.out.turnX (fun k h => .inl (h.elim .inl (fun h => .inr (.inr (.inr h))))), HK1.out.trans (HKP.out.sub (fun k _ h => .inl (.inl h)))⟩
    | true =>
      rw [hd] at hhs
      obtain ⟨i, x, rfl, hix, hkx⟩ := has_spec.1 hd
      have hil : i < l := by have := (List.getElem?_eq_some_iff.1 hix).1; omega
      have hpw : wr.cell? ⟨p, 0, none⟩ = some (.pointer (some ⟨b, 0, none⟩)) := (World.cell?_of_block (a := ⟨p, 0, none⟩) (HKP.out.block p p1 (.inr (.inr (.inl rfl))))).trans HP1.out
      have hqw : wr.cell? ⟨q, 0, none⟩ = some (.int .i64 (t + 1)) := (World.cell?_of_block (a := ⟨q, 0, none⟩) (HKP.out.block q q1 (.inr (.inr (.inr rfl))))).trans HQ1.out
      have hft := first_any wr hbk (by omega) hxw i hil p q hpw hqw (.inr (.inr (.inl rfl)))
      clear hbk hix hkx
      go_wp2_with (first | (go_at_call 76; refine hhs.mono ?_) | (go_at_call 97; refine hft.mono ?_))
      rintro e w1 ⟨rfl, rfl⟩
      go_wp2_with (first | (go_at_call 76; refine hhs.mono ?_) | (go_at_call 97; refine hft.mono ?_))
      rintro e w2 ⟨rfl, hb2, hk2⟩
      clear hhs hft hpw hqw cw
      cases hct : out.contains (i : Int) with
      | true =>
        obtain rfl : out = C := (HWAY.out.done (by rw [hd, hct]; rfl)).symm.trans HC.out
        have HB2 := Lib.hid hb2
        have HK2 := Lib.hid hk2
        have HO2 := Lib.hid (own_keep1 HOWN.out (fun k hk => hk2.block k (own_type HOWN.out hk).2.1 (.inr (.inr (.inr (.inr hk))))))
        clear hb2 hk2 hxw
        go_wp2_with fail
        go_returns
        exact ⟨u5, _, by simp, own_mono HO2.out hs1, HB2.out.turnX (fun k h => .inl (h.elim .inl (fun h => .inr (.inr (.inr h))))), (HK1.out.trans (HKP.out.sub (fun k _ h => .inl (.inl h)))).trans (HK2.out.sub (fun k _ h => .inl (.inl h)))⟩
      | false =>
        have hadd : addNew out (i : Int) = out ++ [(i : Int)] := by unfold addNew; rw [hct]; rfl
        rw [hadd] at hb2
        have hsz2 := hk2.size
        have hO2 := own_keep1 HOWN.out (fun k hk => hk2.block k (own_type HOWN.out hk).2.1 (.inr (.inr (.inr (.inr hk)))))
        have HO2 := Lib.hid hO2
        have HOA := Lib.hid (hO2.alloc (.cells #[.int .i64 (i : Int)] 3))
        have HB2 := Lib.hid hb2
        have HK2 := Lib.hid hk2
        have HST := Lib.hid (HWAY.out.step hd hct)
        have hol := HST.out.len
        rw [List.length_append, List.length_singleton] at hol
        obtain ⟨i3, hi3, hz0, hz1, hz2⟩ := info_parts info3
        have hsV : W1.heap.size ≤ w2.heap.size := Nat.le_trans HKP.out.size hsz2
        clear hb2 hk2 hO2 hxw hadd hsz2
        go_wp2_with (at_builtin; refine wpList_append_sep _ rfl (.tmp 17) (.tmp 19) 32 rfl W1.heap.size 3 i3 (.int .i64 0) 1 8 Try.underlying32 hi3 hz0 hz1 hz2 rfl (by decide) u5 out.length (out.map iv) rfl HOA.out ⟨w2.heap.size, 0, none⟩ 1 1 [.int .i64 (i : Int)] rfl rfl ?c1 ?c2 ?c3 ?c4 ?c5 ?_)
        case c1 => exact lit_cells w2 #[.int .i64 (i : Int)] 3
        case c2 => intro u hu; simp only [List.mem_singleton] at hu; subst hu; rfl
        case c3 => unfold maxLen; omega
        case c4 => omega
        case c5 => simp; omega
        intro v3 w3 hown3 hgrow3 hsep3
        have hsz3 : w2.heap.size ≤ w3.heap.size := Nat.le_trans (by simp) hgrow3.size
        have hkeep : ∀ k, k < w2.heap.size → u5.ownBlock ≠ some k → w3.heap[k]? = w2.heap[k]? := fun k hk hne => (hgrow3.block k (by first | omega | (simp; omega)) (fun h => hne h.symm)).trans (Below.heap_alloc _ _ _ hk)
        have hb3 := ((HB2.out.turnX (X' := fun k => XW X p q u5 k ∨ XW X p q v3 k) (fun k h => by
          rcases h with h | h | h | h | h
          · exact .inl h
          · exact .inl (.inl h)
          · exact .inl (.inr (.inl h))
          · exact .inl (.inr (.inr (.inl h)))
          · rcases hsep3 k h with h | h
            · exact .inl (.inr (.inr (.inr h)))
            · exact .inr (by first | omega | (simp at h; omega)))).over hsz3 (fun k hk hne => hkeep k hk (fun h => hne (.inl (.inr (.inr (.inr h))))))).turnX (X' := XW X p q v3) (fun k h => .inl (.inr h))
        have hx3 : ∀ k, XW X p q v3 k → k < w3.heap.size := fun k h => by
          have := HK1.out.size
          rcases h with h | rfl | rfl | h
          · have := HXW.out k h; omega
          · omega
          · omega
          · exact (own_type hown3 h).2.1
        have hk3 : Kp lo (fun k => X k ∨ k = p ∨ k = q) w2 w3 := ⟨hgrow3.os, hgrow3.tape, hgrow3.output, hsz3, fun k hk hx => hkeep k hk (fun ho => by
          have h1 := (own_type HO2.out ho).1
          have h2 := HB2.out.bk.1.lob
          have h3 := HK1.out.size
          rcases hx with h | h | rfl | rfl
          · have := HW1.out; omega
          · have := HXW.out k h; omega
          · omega
          · omega)⟩
        have hrl := relate_any w3 hb3 (by omega) hx3 i hil
        have HK3 := Lib.hid ((HKP.out.trans (HK2.out.sub (fun k _ h => .inl (by
          rcases h with h | h | h
          · exact .inl h
          · exact .inr (.inl h)
          · exact .inr (.inr (.inl h)))))).trans hk3)
        have HO3 := Lib.hid hown3
        have hl3 := lenV_own hown3
        clear hb3 hx3 hk3 hkeep hown3 hgrow3 hsep3 HOA hsz3
        go_wp2_with (go_at_call 75; refine hrl.mono ?_)
        rintro e w4 ⟨N, R, B, F, T, rfl, hb4, hRi, hk4⟩
        clear hrl
        have n1 := hb4.notes.c1 i hil
        rw [((hb4.ok i hil).2 hRi).1] at n1
        have HB4 := Lib.hid hb4
        have HK4 := Lib.hid hk4
        clear hb4 hk4
        go_wp2_with fail
        refine ⟨⟨_, out ++ [(i : Int)], rfl, HST.out, ?_, .inr ⟨N, R, B, F, T, HB4.out⟩, HK3.out.trans (HK4.out.sub (fun k _ h => .inl (by
          rcases h with h | h | h
          · exact .inl h
          · exact .inr (.inl h)
          · exact .inr (.inr (.inl h)))))⟩, by first | omega | (simp; omega) | trace_state⟩
        have := own_keep1 HO3.out (fun k hk => HK4.out.block k (own_type HO3.out hk).2.1 (.inr (.inr (.inr (.inr hk)))))
        rw [List.length_append, List.map_append]
        exact this
end

end Go.Proofs.Ytnjfbcoddbeggaa
