/-
  What a book says of a class: its base, its interfaces.
-/
import Derived.Test.YtnjfbcoddbeggaaUnote2
import Derived.Deep.DeepAppendRoom
import Derived.OwnWalk
namespace Go.Proofs.Ytnjfbcoddbeggaa
open Go Go.ChangeShapes Go.WideShapes Go.ChangeAt Go.RowKit Go.Joins

theorem own_keep {w w' : World} {base size n : Nat} {e : TypeId} {v : Value} {xs : List Value} (h : w.ownsRow base e size v n xs) (hk : ∀ k, base ≤ k → k < w.heap.size → w'.heap[k]? = w.heap[k]?) : w'.ownsRow base e size v n xs := by
  refine ⟨h.1, ?_⟩
  rcases h.2 with h1 | ⟨g, cap, cur, hv, hg, hc, hr⟩
  · exact .inl h1
  · exact .inr ⟨g, cap, cur, hv, hg, (hk g hg (heap_lt hc)).trans hc, hr⟩
theorem ownFaces_snoc (ds : List DeclU) (fs : List ByteArray) (s : ByteArray) : ownFaces ds (fs ++ [s]) = ownFaces ds fs ++ (if hasU ds (findU ds s) 1 = true then [findU ds s] else []) := by
  unfold ownFaces
  rw [List.filterMap_append]
  congr 1
  by_cases h : hasU ds (findU ds s) 1 = true
  · rw [if_pos h]; simp [h]
  · rw [if_neg h]; simp [h]
theorem take_snoc {T : Type} {xs : List T} {k : Nat} {x : T} (h : xs[k]? = some x) : xs.take (k + 1) = xs.take k ++ [x] := by
  rw [List.take_add_one, h]; rfl
section
variable {ds : List DeclU} {lim lo : Nat} {X : Nat → Prop} {b : Nat} {a : Option Addr} {l c g1 g2 g3 : Nat} {t : Int} {met : List Int}
/-- all notes but one say what they are to say -/
structure BkP (ds : List DeclU) (lim lo : Nat) (X : Nat → Prop) (W : World) (b : Nat) (a : Option Addr) (l c g1 g2 g3 : Nat) (t : Int) (met : List Int) (N : Nat) (R : Nat → Bool) (B : Nat → Int) (F : Nat → Value) (T : Nat → Int) (i : Nat) : Prop where
  bk : Bk ds lim lo X W b a l c g1 g2 g3 t
  blk : BkC W b a l c (.slice (some ⟨N, 0, none⟩) l l) g1 g2 g3 t
  notes : Notes W N l R B F T
  loN : lo ≤ N
  nb : N ≠ b
  xN : ¬ X N
  stamp : ∀ i, i < l → T i ≤ t ∧ (T i = t ↔ (i : Int) ∈ met)
  ok : ∀ j, j < l → j ≠ i → FaceOk ds lo X W b N (R j) (B j) (F j) j
theorem BkP.wrote {N i : Nat} {R R' : Nat → Bool} {B B' : Nat → Int} {F F' : Nat → Value} {T : Nat → Int} {W : World} (h : BkP ds lim lo X W b a l c g1 g2 g3 t met N R B F T i) (o : Nat) (v : Value)
    (hn : Notes (W.setCell ⟨N, o, none⟩ v) N l R' B' F' T) (hR : ∀ j, j ≠ i → R' j = R j) (hB : ∀ j, j ≠ i → B' j = B j) (hF : ∀ j, j ≠ i → F' j = F j) : BkP ds lim lo X (W.setCell ⟨N, o, none⟩ v) b a l c g1 g2 g3 t met N R' B' F' T i := by
  have hk : ∀ k, k ≠ N → (W.setCell ⟨N, o, none⟩ v).heap[k]? = W.heap[k]? := fun k hk => by simp [World.setCell, Array.getElem?_modify, Ne.symm hk]
  have hl := h.loN
  exact ⟨h.bk.over (fun k hq => hk k (by have := h.bk.lim; omega)), (hk b (Ne.symm h.nb)).trans h.blk, hn, h.loN, h.nb, h.xN, h.stamp, fun j hj hji => by rw [hR j hji, hB j hji, hF j hji]; exact (h.ok j hj hji).over (by simp) (fun k _ _ _ h4 _ => hk k h4)⟩
/-- a note that says its base, and its interfaces -/
inductive RPost (ds : List DeclU) (lim lo : Nat) (X : Nat → Prop) (W W' : World) (b : Nat) (a : Option Addr) (l c g1 g2 g3 : Nat) (t : Int) (met : List Int) (i : Nat) (e : Ending) : Prop
  | mk (N : Nat) (R : Nat → Bool) (B : Nat → Int) (F : Nat → Value) (T : Nat → Int) (h1 : e = .returned (.pointer (some ⟨N, i * 5, none⟩))) (h2 : BkN ds lim lo X W' b a l c g1 g2 g3 t met N R B F T) (h3 : R i = true) (h4 : Kp lo X W W') : RPost ds lim lo X W W' b a l c g1 g2 g3 t met i e
theorem facesOf_at {ds : List DeclU} {i : Nat} {x : DeclU} (h : ds[i]? = some x) : facesOf ds i = ownFaces ds x.faces := by unfold facesOf; simp [h]
theorem baseU_at {ds : List DeclU} {i : Nat} {x : DeclU} (h : ds[i]? = some x) : baseU ds i = x.base := by unfold baseU; simp [h]

set_option maxHeartbeats 3200000 in
set_option maxRecDepth 100000 in
theorem relate_any (W : World) (h : BkAny ds lim lo X W b a l c g1 g2 g3 t met) (ht : 1 ≤ t) (hx : ∀ k, X k → k < W.heap.size) (i : Nat) (hi : i < l) :
    Calls Try.prog 75 #[.pointer (some ⟨b, 0, none⟩), .int .i64 i] W fun e W' => RPost ds lim lo X W W' b a l c g1 g2 g3 t met i e := by
  have hn := note_any W h ht hx i hi
  have HXW := Lib.hid hx
  clear h hx
  go_enter Try.func75, Try.ntmps75
  go_wp2_with (go_at_call 98; refine hn.mono ?_)
  rintro e W1 ⟨N, R, B, F, T, rfl, hb, hk⟩
  clear hn
  have n0 := hb.notes.c0 i hi
  have HB := Lib.hid hb
  have HK := Lib.hid hk
  clear hk
  cases hR : R i with
  | true =>
    rw [hR] at n0
    clear hb
    go_wp2_with fail
    go_returns
    exact ⟨N, R, B, F, T, by simp, HB.out, hR, HK.out⟩
  | false =>
    rw [hR] at n0
    have i0 : (i : Int) < (l : Int) := by omega
    have i1 : (0 : Int) ≤ (i : Int) := by omega
    obtain ⟨bb, o, x, vs, rfl, hbl, hx, hca, hI⟩ := hb.bk.row.item hi
    obtain ⟨a3, l3, c3, a6, l6, c6, a7, l7, c7, d8, a8, l8, c8, rfl, hr3, -⟩ := decl_is.1 hI
    have c0 : W1.cell? ⟨b, 0, none⟩ = some (.slice (some ⟨bb, o, none⟩) l c) := by rw [Lib.cell_of_heap hb.blk]; rfl
    have e2 : W1.cell? ⟨bb, o + i * 11 + 2, none⟩ = some (.string x.base) := hca 2 _ rfl
    have n1 := hb.notes.c1 i hi
    have f0 := hb.notes.fz (i * 5)
    have f1 := hb.notes.fz (i * 5 + 1)
    have hfind := bfind_any _ W1 b _ l c ds c0 hb.bk.row hb.bk.few x.base
    have HX := Lib.hid hx
    have HE3 := Lib.hid (show W1.cell? ⟨bb, o + i * 11 + 3, none⟩ = some (.slice a3 l3 c3) from hca 3 _ rfl)
    have HR3 := Lib.hid hr3
    have HF0 := Lib.hid ((hb.ok i hi).1 hR)
    have hbN := hb.nb
    have hN0 := hb.notes.set0 hi true
    have hP0 : BkP ds lim lo X W1 b (some ⟨bb, o, none⟩) l c g1 g2 g3 t met N R B F T i := ⟨hb.bk, hb.blk, hb.notes, hb.loN, hb.nb, hb.xN, hb.stamp, fun j hj _ => hb.ok j hj⟩
    have hP1 := hP0.wrote _ _ hN0 (fun j hj => if_neg hj) (fun j _ => rfl) (fun j _ => rfl)
    have hP2 := hP1.wrote _ _ (hP1.notes.set1 hi (findU ds x.base)) (fun j hj => rfl) (fun j hj => if_neg hj) (fun j _ => rfl)
    have HP2 := Lib.hid hP2
    have hBN : bb ≠ N := by have := hb.bk.lim; have := hb.loN; omega
    clear hb hca hI hx hr3 hN0 hP0 hP1 hP2
    go_wp2_with (go_at_call 99; refine hfind.mono ?_)
    rintro e W2 ⟨rfl, rfl⟩
    clear hfind
    go_upto_region 5 with fail
    have hN2 : ∀ k, k ≠ N → ((W2.setCell ⟨N, i * 5, none⟩ (.bool true)).setCell ⟨N, i * 5 + 1, none⟩ (.int .i64 (findU ds x.base))).heap[k]? = W2.heap[k]? := fun k hk => by simp [World.setCell, Array.getElem?_modify, Ne.symm hk]
    have HK2 := Lib.hid ((HK.out.trans (Kp.set (W := W2) ⟨N, i * 5, none⟩ (.bool true) HB.out.loN HB.out.xN)).trans (Kp.set (W := W2.setCell ⟨N, i * 5, none⟩ (.bool true)) ⟨N, i * 5 + 1, none⟩ (.int .i64 (findU ds x.base)) HB.out.loN HB.out.xN))
    generalize ((W2.setCell ⟨N, i * 5, none⟩ (.bool true)).setCell ⟨N, i * 5 + 1, none⟩ (.int .i64 (findU ds x.base))) = V2 at *
    clear n0 n1 f0 f1 c0 e2
    have c0 : V2.cell? ⟨b, 0, none⟩ = some (.slice (some ⟨bb, o, none⟩) l c) := by rw [Lib.cell_of_heap HP2.out.blk]; rfl
    have n1 : V2.cell? ⟨N, i * 5 + 1, none⟩ = some (.int .i64 (findU ds x.base)) := by rw [HP2.out.notes.c1 i hi, if_pos rfl]
    have f1 := HP2.out.notes.fz (i * 5 + 1)
    have hhas := has_any _ V2 b _ l c ds c0 HP2.out.bk.row (findU ds x.base) 2
    cases hb2 : hasU ds (findU ds x.base) 2 with
    | false =>
      rw [hb2] at hhas
      have hnx : nextU ds i = -1 := by unfold nextU; rw [baseU_at HX.out, hb2]; rfl
      have hP3 := HP2.out.wrote _ _ (HP2.out.notes.set1 hi (-1)) (fun j hj => rfl) (fun j hj => if_neg hj) (fun j _ => rfl)
      have HP3 := Lib.hid hP3
      have HK3 := Lib.hid (HK2.out.trans (Kp.set (W := V2) ⟨N, i * 5 + 1, none⟩ (.int .i64 (-1)) HB.out.loN HB.out.xN))
      have hN3 : ∀ k, k ≠ N → (V2.setCell ⟨N, i * 5 + 1, none⟩ (.int .i64 (-1))).heap[k]? = W2.heap[k]? := fun k hk => (show _ = V2.heap[k]? by simp [World.setCell, Array.getElem?_modify, Ne.symm hk]).trans (hN2 k hk)
      clear hP3
      go_wp2_with (go_at_call 76; refine hhas.mono ?_)
      rintro e V2' ⟨rfl, rfl⟩
      clear hhas
      go_upto_region 7 with fail
      generalize V2'.setCell ⟨N, i * 5 + 1, none⟩ (.int .i64 (-1)) = V3 at *
      clear c0 n1 f1 hN2 HP2 HK2
      obtain ⟨R3, B3, hP3, hRi, hBi⟩ : ∃ R3 B3, BkP ds lim lo X V3 b (some ⟨bb, o, none⟩) l c g1 g2 g3 t met N R3 B3 F T i ∧ R3 i = true ∧ B3 i = nextU ds i := ⟨_, _, HP3.out, if_pos rfl, (if_pos rfl).trans hnx.symm⟩
      have HP3 := Lib.hid hP3
      clear hP3 hnx hb2
      have HN3 := Lib.hid hN3
      have c0 : V3.cell? ⟨b, 0, none⟩ = some (.slice (some ⟨bb, o, none⟩) l c) := by rw [Lib.cell_of_heap HP3.out.blk]; rfl
      have e3 : V3.cell? ⟨bb, o + i * 11 + 3, none⟩ = some (.slice a3 l3 c3) := (World.cell?_of_block (a := ⟨bb, o + i * 11 + 3, none⟩) (hN3 bb hBN)).trans HE3.out
      have hm3 : l3 ≤ 8 := by rw [← HR3.out.1]; exact (HP3.out.bk.few8 i x HX.out).1
      have hbs := heap_lt HP3.out.blk
      have HNS := Lib.hid HP3.out.notes.lt
      have HXV := Lib.hid (fun k (h : X k) => Nat.lt_of_lt_of_le (HXW.out k h) HK3.out.size)
      clear hN3
      go_wp2_with fail
      clear c0 e3
      go_loopw [54] (fun j wr => ∃ (k : Nat) (fv : Value) (xs : List Int), k ≤ l3 ∧ j = .int .i64 k ∧ xs = ownFaces ds (x.faces.take k) ∧ wr.ownsRow V3.heap.size 3 1 fv xs.length (xs.map iv) ∧ (∃ F', Notes wr N l R3 B3 F' T ∧ F' i = fv ∧ ∀ j, j ≠ i → F' j = F j) ∧ Kp lo X V3 wr ∧ ∀ q, q < V3.heap.size → q ≠ N → wr.heap[q]? = V3.heap[q]?) (fun j _ => l3 - (intOf j).toNat)
      case atStart => exact ⟨0, .slice none 0 0, [], Nat.zero_le _, rfl, rfl, World.ownsRow_nil _ _ _ _, ⟨F, HP3.out.notes, HF0.out, fun _ _ => rfl⟩, Kp.refl _ _ _, fun _ _ _ => rfl⟩
      case round =>
        obtain ⟨k, fv, xs, hk, rfl, hxs, hown, ⟨F', hnotes, hFi, hFj⟩, hkp, hkq⟩ := hrel
        have hbq : wr.heap[b]? = V3.heap[b]? := hkq b hbs (Ne.symm hbN)
        have hlimq : ∀ q, q < lim → wr.heap[q]? = V3.heap[q]? := fun q hq => hkq q (by have := HP3.out.bk.lim; have := HP3.out.bk.lob; omega) (by have := HP3.out.bk.lim; have := HP3.out.loN; omega)
        have hrowS : Row shStr (fun k => k < lim) wr a3 l3 x.faces := HR3.out.keep (fun q hq => (hlimq q hq).trans (HN3.out q (by have := HP3.out.bk.lim; have := HP3.out.loN; omega)))
        by_cases hlt : k < l3
        · have j0 : (k : Int) < (l3 : Int) := by omega
          have j1 : (0 : Int) ≤ (k : Int) := by omega
          obtain ⟨b3, o3, s, vs3, rfl, _, hs, hc3, hI3⟩ := hrowS.item hlt
          obtain rfl := str_is.1 hI3
          have s0 : wr.cell? ⟨b3, o3 + k, none⟩ = some (.string s) := by have := hc3 0 _ rfl; rw [show o3 + k * shStr.n + 0 = o3 + k by show o3 + k * 1 + 0 = _; omega] at this; exact this
          have cw : wr.cell? ⟨b, 0, none⟩ = some (.slice (some ⟨bb, o, none⟩) l c) := by rw [Lib.cell_of_heap (hbq.trans HP3.out.blk)]; rfl
          have hfd := bfind_any _ wr b _ l c ds cw (HP3.out.bk.row.keep hlimq) HP3.out.bk.few s
          have hhs := has_any _ wr b _ l c ds cw (HP3.out.bk.row.keep hlimq) (findU ds s) 1
          have hsn := take_snoc hs
          have n2 := hnotes.c2 i hi
          rw [hFi] at n2
          have f2 := hnotes.fz (i * 5 + 2)
          have hxl : xs.length ≤ k := by rw [hxs]; unfold ownFaces; exact Nat.le_trans (List.length_filterMap_le _ _) (by simp; omega)
          have HO := Lib.hid hown
          have HNT := Lib.hid hnotes
          have HKP := Lib.hid hkp
          have HKQ := Lib.hid hkq
          have HXS := Lib.hid hxs
          have HFJ := Lib.hid hFj
          have HSN := Lib.hid hsn
          clear hown hnotes hkp hkq hxs hFj hsn hbq hlimq hrowS hs hc3 hI3 cw
          cases h1 : hasU ds (findU ds s) 1 with
          | false =>
            rw [h1] at hhs
            go_wp2_with (first | (go_at_call 99; refine hfd.mono ?_) | (go_at_call 76; refine hhs.mono ?_))
            rintro e w1 ⟨rfl, rfl⟩
            go_wp2_with (first | (go_at_call 99; refine hfd.mono ?_) | (go_at_call 76; refine hhs.mono ?_))
            rintro e w2 ⟨rfl, rfl⟩
            clear hfd hhs
            go_wp2_with fail
            exact ⟨⟨k + 1, fv, xs, by omega, by go_num, by rw [HSN.out, ownFaces_snoc, h1, HXS.out]; simp, HO.out, ⟨F', HNT.out, hFi, HFJ.out⟩, HKP.out, HKQ.out⟩, by simp [intOf]; omega⟩
          | true =>
            rw [h1] at hhs
            go_wp2_with (first | (go_at_call 99; refine hfd.mono ?_) | (go_at_call 76; refine hhs.mono ?_))
            rintro e w1 ⟨rfl, rfl⟩
            go_wp2_with (first | (go_at_call 99; refine hfd.mono ?_) | (go_at_call 76; refine hhs.mono ?_))
            rintro e w2 ⟨rfl, rfl⟩
            clear hfd hhs
            have HOA := Lib.hid (HO.out.alloc (.cells #[.int .i64 (findU ds s)] 3))
            obtain ⟨i3, hi3, hz0, hz1, hz2⟩ := info_parts info3
            have HSZ := Lib.hid (HKP.out.size)
            go_wp2_with (at_builtin; refine wpList_append_own _ rfl (.tmp 68) (.tmp 70) 32 rfl V3.heap.size 3 i3 (.int .i64 0) 1 8 Try.underlying32 hi3 hz0 hz1 hz2 rfl (by decide) fv xs.length (xs.map iv) rfl HOA.out ⟨w2.heap.size, 0, none⟩ 1 1 [.int .i64 (findU ds s)] rfl rfl ?c1 ?c2 ?c3 ?c4 ?c5 ?_)
            case c1 => exact lit_cells w2 #[.int .i64 (findU ds s)] 3
            case c2 => intro u hu; simp only [List.mem_singleton] at hu; subst hu; rfl
            case c3 => unfold maxLen; omega
            case c4 => omega
            case c5 => have := HSZ.out; simp; omega
            intro v1 w3 hown1 hgrow1 _
            obtain ⟨gv, cv, rfl⟩ := Joins.ownsRow_form hown1 (by omega)
            have hlow : ∀ q, q < V3.heap.size → w3.heap[q]? = w2.heap[q]? := fun q hq => (hgrow1.block q (by have := HSZ.out; simp; omega) (fun h => by have := (own_type HO.out h.symm).1; omega)).trans (Below.heap_alloc _ _ _ (by have := HSZ.out; omega))
            have hsz3 : w2.heap.size ≤ w3.heap.size := Nat.le_trans (by simp) hgrow1.size
            have hNT3 := HNT.out.keep (hlow N HNS.out)
            have f2 := hNT3.fz (i * 5 + 2)
            have n2 := hNT3.c2 i hi
            rw [hFi] at n2
            have HOW := Lib.hid (own_keep (w' := w3.setCell ⟨N, i * 5 + 2, none⟩ (.slice (some ⟨gv, 0, none⟩) (xs.length + 1) cv)) hown1 (fun k hk _ => by have := HNS.out; simp [World.setCell, Array.getElem?_modify, show N ≠ k by omega]))
            have HKW := Lib.hid ((HKP.out.trans (show Kp lo X w2 w3 from ⟨hgrow1.os, hgrow1.tape, hgrow1.output, hsz3, fun k hk hx => hlow k (hx.elim (fun h => by have := HP3.out.bk.lob; omega) (HXV.out k))⟩)).trans (Kp.set (W := w3) ⟨N, i * 5 + 2, none⟩ (.slice (some ⟨gv, 0, none⟩) (xs.length + 1) cv) HP3.out.loN HP3.out.xN))
            have HQW := Lib.hid (fun q (hq : q < V3.heap.size) (hqN : q ≠ N) => (show (w3.setCell ⟨N, i * 5 + 2, none⟩ (.slice (some ⟨gv, 0, none⟩) (xs.length + 1) cv)).heap[q]? = w3.heap[q]? by simp [World.setCell, Array.getElem?_modify, Ne.symm hqN]).trans ((hlow q hq).trans (HKQ.out q hq hqN)))
            have HNW := Lib.hid (hNT3.set2 hi (.slice (some ⟨gv, 0, none⟩) (xs.length + 1) cv))
            clear hown1 hgrow1 hlow hNT3 HOA hsz3
            go_wp2_with fail
            refine ⟨⟨k + 1, _, xs ++ [findU ds s], by omega, by go_num, by rw [HSN.out, ownFaces_snoc, h1, HXS.out]; simp, ?_, ⟨_, HNW.out, if_pos rfl, fun j hj => (if_neg hj).trans (HFJ.out j hj)⟩, HKW.out, HQW.out⟩, by simp [intOf]; omega⟩
            rw [List.length_append, List.map_append]
            exact HOW.out
        · obtain rfl : k = l3 := by omega
          have hxa : xs = facesOf ds i := by rw [hxs, facesOf_at HX.out, List.take_of_length_le (by rw [HR3.out.1]; omega)]
          have hbkN : BkN ds lim lo X wr b (some ⟨bb, o, none⟩) l c g1 g2 g3 t met N R3 B3 F' T := by
            refine ⟨HP3.out.bk.over hlimq, hbq.trans HP3.out.blk, hnotes, HP3.out.loN, HP3.out.nb, HP3.out.xN, HP3.out.stamp, fun j hj => ?_⟩
            by_cases hji : j = i
            · subst hji
              refine ⟨fun h => (by rw [hRi] at h; cases h), fun _ => ⟨hBi, ?_⟩⟩
              obtain ⟨fa, fl, fc, hfs⟩ : ∃ fa fl fc, fv = .slice fa fl fc := by
                rcases ownsRow_forms hown with ⟨h, _⟩ | ⟨g, cap, h⟩
                · exact ⟨_, _, _, h⟩
                · exact ⟨_, _, _, h⟩
              subst hfs
              refine ⟨fa, fl, fc, hFi, ?_⟩
              rw [← hxa]
              refine (ints_row hown (fun k hk => ?_)).1
              obtain ⟨h1, h2, _⟩ := own_type hown hk
              have := HNS.out
              exact ⟨by have := HP3.out.bk.lob; omega, h2, by omega, by omega, fun h => by have := HXV.out k h; omega⟩
            · rw [hFj j hji]
              exact (HP3.out.ok j hj hji).over hkp.size (fun k h1 _ _ h4 _ => hkq k h1 h4)
          have HBK := Lib.hid hbkN
          have HKK := Lib.hid (HK3.out.trans hkp)
          clear hbkN hxa hown hnotes hkp hkq hbq hlimq hrowS hFj hFi hxs
          go_wp2_with fail
          go_returns
          exact ⟨N, R3, B3, F', T, by simp, HBK.out, hRi, HKK.out⟩
    | true =>
      rw [hb2] at hhas
      have hnx : nextU ds i = findU ds x.base := by unfold nextU; rw [baseU_at HX.out, hb2]; rfl
      have HP3 := HP2
      have HK3 := HK2
      have hN3 := hN2
      go_wp2_with (go_at_call 76; refine hhas.mono ?_)
      rintro e V3 ⟨rfl, rfl⟩
      clear hhas
      go_upto_region 7 with fail
      clear c0 n1 f1 hN2 HP2 HK2
      obtain ⟨R3, B3, hP3, hRi, hBi⟩ : ∃ R3 B3, BkP ds lim lo X V3 b (some ⟨bb, o, none⟩) l c g1 g2 g3 t met N R3 B3 F T i ∧ R3 i = true ∧ B3 i = nextU ds i := ⟨_, _, HP3.out, if_pos rfl, (if_pos rfl).trans hnx.symm⟩
      have HP3 := Lib.hid hP3
      clear hP3 hnx hb2
      have HN3 := Lib.hid hN3
      have c0 : V3.cell? ⟨b, 0, none⟩ = some (.slice (some ⟨bb, o, none⟩) l c) := by rw [Lib.cell_of_heap HP3.out.blk]; rfl
      have e3 : V3.cell? ⟨bb, o + i * 11 + 3, none⟩ = some (.slice a3 l3 c3) := (World.cell?_of_block (a := ⟨bb, o + i * 11 + 3, none⟩) (hN3 bb hBN)).trans HE3.out
      have hm3 : l3 ≤ 8 := by rw [← HR3.out.1]; exact (HP3.out.bk.few8 i x HX.out).1
      have hbs := heap_lt HP3.out.blk
      have HNS := Lib.hid HP3.out.notes.lt
      have HXV := Lib.hid (fun k (h : X k) => Nat.lt_of_lt_of_le (HXW.out k h) HK3.out.size)
      clear hN3
      go_wp2_with fail
      clear c0 e3
      go_loopw [54] (fun j wr => ∃ (k : Nat) (fv : Value) (xs : List Int), k ≤ l3 ∧ j = .int .i64 k ∧ xs = ownFaces ds (x.faces.take k) ∧ wr.ownsRow V3.heap.size 3 1 fv xs.length (xs.map iv) ∧ (∃ F', Notes wr N l R3 B3 F' T ∧ F' i = fv ∧ ∀ j, j ≠ i → F' j = F j) ∧ Kp lo X V3 wr ∧ ∀ q, q < V3.heap.size → q ≠ N → wr.heap[q]? = V3.heap[q]?) (fun j _ => l3 - (intOf j).toNat)
      case atStart => exact ⟨0, .slice none 0 0, [], Nat.zero_le _, rfl, rfl, World.ownsRow_nil _ _ _ _, ⟨F, HP3.out.notes, HF0.out, fun _ _ => rfl⟩, Kp.refl _ _ _, fun _ _ _ => rfl⟩
      case round =>
        obtain ⟨k, fv, xs, hk, rfl, hxs, hown, ⟨F', hnotes, hFi, hFj⟩, hkp, hkq⟩ := hrel
        have hbq : wr.heap[b]? = V3.heap[b]? := hkq b hbs (Ne.symm hbN)
        have hlimq : ∀ q, q < lim → wr.heap[q]? = V3.heap[q]? := fun q hq => hkq q (by have := HP3.out.bk.lim; have := HP3.out.bk.lob; omega) (by have := HP3.out.bk.lim; have := HP3.out.loN; omega)
        have hrowS : Row shStr (fun k => k < lim) wr a3 l3 x.faces := HR3.out.keep (fun q hq => (hlimq q hq).trans (HN3.out q (by have := HP3.out.bk.lim; have := HP3.out.loN; omega)))
        by_cases hlt : k < l3
        · have j0 : (k : Int) < (l3 : Int) := by omega
          have j1 : (0 : Int) ≤ (k : Int) := by omega
          obtain ⟨b3, o3, s, vs3, rfl, _, hs, hc3, hI3⟩ := hrowS.item hlt
          obtain rfl := str_is.1 hI3
          have s0 : wr.cell? ⟨b3, o3 + k, none⟩ = some (.string s) := by have := hc3 0 _ rfl; rw [show o3 + k * shStr.n + 0 = o3 + k by show o3 + k * 1 + 0 = _; omega] at this; exact this
          have cw : wr.cell? ⟨b, 0, none⟩ = some (.slice (some ⟨bb, o, none⟩) l c) := by rw [Lib.cell_of_heap (hbq.trans HP3.out.blk)]; rfl
          have hfd := bfind_any _ wr b _ l c ds cw (HP3.out.bk.row.keep hlimq) HP3.out.bk.few s
          have hhs := has_any _ wr b _ l c ds cw (HP3.out.bk.row.keep hlimq) (findU ds s) 1
          have hsn := take_snoc hs
          have n2 := hnotes.c2 i hi
          rw [hFi] at n2
          have f2 := hnotes.fz (i * 5 + 2)
          have hxl : xs.length ≤ k := by rw [hxs]; unfold ownFaces; exact Nat.le_trans (List.length_filterMap_le _ _) (by simp; omega)
          have HO := Lib.hid hown
          have HNT := Lib.hid hnotes
          have HKP := Lib.hid hkp
          have HKQ := Lib.hid hkq
          have HXS := Lib.hid hxs
          have HFJ := Lib.hid hFj
          have HSN := Lib.hid hsn
          clear hown hnotes hkp hkq hxs hFj hsn hbq hlimq hrowS hs hc3 hI3 cw
          cases h1 : hasU ds (findU ds s) 1 with
          | false =>
            rw [h1] at hhs
            go_wp2_with (first | (go_at_call 99; refine hfd.mono ?_) | (go_at_call 76; refine hhs.mono ?_))
            rintro e w1 ⟨rfl, rfl⟩
            go_wp2_with (first | (go_at_call 99; refine hfd.mono ?_) | (go_at_call 76; refine hhs.mono ?_))
            rintro e w2 ⟨rfl, rfl⟩
            clear hfd hhs
            go_wp2_with fail
            exact ⟨⟨k + 1, fv, xs, by omega, by go_num, by rw [HSN.out, ownFaces_snoc, h1, HXS.out]; simp, HO.out, ⟨F', HNT.out, hFi, HFJ.out⟩, HKP.out, HKQ.out⟩, by simp [intOf]; omega⟩
          | true =>
            rw [h1] at hhs
            go_wp2_with (first | (go_at_call 99; refine hfd.mono ?_) | (go_at_call 76; refine hhs.mono ?_))
            rintro e w1 ⟨rfl, rfl⟩
            go_wp2_with (first | (go_at_call 99; refine hfd.mono ?_) | (go_at_call 76; refine hhs.mono ?_))
            rintro e w2 ⟨rfl, rfl⟩
            clear hfd hhs
            have HOA := Lib.hid (HO.out.alloc (.cells #[.int .i64 (findU ds s)] 3))
            obtain ⟨i3, hi3, hz0, hz1, hz2⟩ := info_parts info3
            have HSZ := Lib.hid (HKP.out.size)
            go_wp2_with (at_builtin; refine wpList_append_own _ rfl (.tmp 68) (.tmp 70) 32 rfl V3.heap.size 3 i3 (.int .i64 0) 1 8 Try.underlying32 hi3 hz0 hz1 hz2 rfl (by decide) fv xs.length (xs.map iv) rfl HOA.out ⟨w2.heap.size, 0, none⟩ 1 1 [.int .i64 (findU ds s)] rfl rfl ?c1 ?c2 ?c3 ?c4 ?c5 ?_)
            case c1 => exact lit_cells w2 #[.int .i64 (findU ds s)] 3
            case c2 => intro u hu; simp only [List.mem_singleton] at hu; subst hu; rfl
            case c3 => unfold maxLen; omega
            case c4 => omega
            case c5 => have := HSZ.out; simp; omega
            intro v1 w3 hown1 hgrow1 _
            obtain ⟨gv, cv, rfl⟩ := Joins.ownsRow_form hown1 (by omega)
            have hlow : ∀ q, q < V3.heap.size → w3.heap[q]? = w2.heap[q]? := fun q hq => (hgrow1.block q (by have := HSZ.out; simp; omega) (fun h => by have := (own_type HO.out h.symm).1; omega)).trans (Below.heap_alloc _ _ _ (by have := HSZ.out; omega))
            have hsz3 : w2.heap.size ≤ w3.heap.size := Nat.le_trans (by simp) hgrow1.size
            have hNT3 := HNT.out.keep (hlow N HNS.out)
            have f2 := hNT3.fz (i * 5 + 2)
            have n2 := hNT3.c2 i hi
            rw [hFi] at n2
            have HOW := Lib.hid (own_keep (w' := w3.setCell ⟨N, i * 5 + 2, none⟩ (.slice (some ⟨gv, 0, none⟩) (xs.length + 1) cv)) hown1 (fun k hk _ => by have := HNS.out; simp [World.setCell, Array.getElem?_modify, show N ≠ k by omega]))
            have HKW := Lib.hid ((HKP.out.trans (show Kp lo X w2 w3 from ⟨hgrow1.os, hgrow1.tape, hgrow1.output, hsz3, fun k hk hx => hlow k (hx.elim (fun h => by have := HP3.out.bk.lob; omega) (HXV.out k))⟩)).trans (Kp.set (W := w3) ⟨N, i * 5 + 2, none⟩ (.slice (some ⟨gv, 0, none⟩) (xs.length + 1) cv) HP3.out.loN HP3.out.xN))
            have HQW := Lib.hid (fun q (hq : q < V3.heap.size) (hqN : q ≠ N) => (show (w3.setCell ⟨N, i * 5 + 2, none⟩ (.slice (some ⟨gv, 0, none⟩) (xs.length + 1) cv)).heap[q]? = w3.heap[q]? by simp [World.setCell, Array.getElem?_modify, Ne.symm hqN]).trans ((hlow q hq).trans (HKQ.out q hq hqN)))
            have HNW := Lib.hid (hNT3.set2 hi (.slice (some ⟨gv, 0, none⟩) (xs.length + 1) cv))
            clear hown1 hgrow1 hlow hNT3 HOA hsz3
            go_wp2_with fail
            refine ⟨⟨k + 1, _, xs ++ [findU ds s], by omega, by go_num, by rw [HSN.out, ownFaces_snoc, h1, HXS.out]; simp, ?_, ⟨_, HNW.out, if_pos rfl, fun j hj => (if_neg hj).trans (HFJ.out j hj)⟩, HKW.out, HQW.out⟩, by simp [intOf]; omega⟩
            rw [List.length_append, List.map_append]
            exact HOW.out
        · obtain rfl : k = l3 := by omega
          have hxa : xs = facesOf ds i := by rw [hxs, facesOf_at HX.out, List.take_of_length_le (by rw [HR3.out.1]; omega)]
          have hbkN : BkN ds lim lo X wr b (some ⟨bb, o, none⟩) l c g1 g2 g3 t met N R3 B3 F' T := by
            refine ⟨HP3.out.bk.over hlimq, hbq.trans HP3.out.blk, hnotes, HP3.out.loN, HP3.out.nb, HP3.out.xN, HP3.out.stamp, fun j hj => ?_⟩
            by_cases hji : j = i
            · subst hji
              refine ⟨fun h => (by rw [hRi] at h; cases h), fun _ => ⟨hBi, ?_⟩⟩
              obtain ⟨fa, fl, fc, hfs⟩ : ∃ fa fl fc, fv = .slice fa fl fc := by
                rcases ownsRow_forms hown with ⟨h, _⟩ | ⟨g, cap, h⟩
                · exact ⟨_, _, _, h⟩
                · exact ⟨_, _, _, h⟩
              subst hfs
              refine ⟨fa, fl, fc, hFi, ?_⟩
              rw [← hxa]
              refine (ints_row hown (fun k hk => ?_)).1
              obtain ⟨h1, h2, _⟩ := own_type hown hk
              have := HNS.out
              exact ⟨by have := HP3.out.bk.lob; omega, h2, by omega, by omega, fun h => by have := HXV.out k h; omega⟩
            · rw [hFj j hji]
              exact (HP3.out.ok j hj hji).over hkp.size (fun k h1 _ _ h4 _ => hkq k h1 h4)
          have HBK := Lib.hid hbkN
          have HKK := Lib.hid (HK3.out.trans hkp)
          clear hbkN hxa hown hnotes hkp hkq hbq hlimq hrowS hFj hFi hxs
          go_wp2_with fail
          go_returns
          exact ⟨N, R3, B3, F', T, by simp, HBK.out, hRi, HKK.out⟩
end

end Go.Proofs.Ytnjfbcoddbeggaa
