/-
  The maps of a book.
-/
import Derived.Test.YtnjfbcoddbeggaaUcomes
import Derived.DeepKeys4
import Derived.MapViews
import Derived.Maps.Own
import Derived.Maps.Views
import Derived.Test.YtnjfbcoddbeggaaUpto
namespace Go.Proofs.Ytnjfbcoddbeggaa
open Go Go.ChangeShapes Go.WideShapes Go.ChangeAt Go.RowKit Go.Joins Go.ChangeMaps Go.MapKept

theorem laidOut : laidOutB Try.prog = true := by kernel_rfl
theorem rowPair : (132 : TypeId) < Try.prog.types.size := of_decide_eq_true (by kernel_rfl)
theorem widePair : (match Try.prog.underlying 132 with | some (.array _ _) | some (.struct _) => true | _ => false) = true := by kernel_rfl
theorem deepPair : Try.prog.keyTypeAt (Try.prog.types.size + 1) 132 = true := by kernel_rfl
theorem cellsPair : Try.prog.cellsOf 132 = 2 := by kernel_rfl
set_option maxRecDepth 100000 in
theorem lawPair : Maps.Keyed Try.prog 132 := Maps.Keyed.of_law (deep_law_laid laidOut (m := 3) (by omega) rowPair (by kernel_rfl) widePair)
theorem cells9 : Try.prog.cellsOf 9 = 1 := by kernel_rfl
set_option maxRecDepth 100000 in
theorem trodStr (s : ByteArray) (hs : s.size ≤ 1000) : DataW.trod (fun (_ : TypeId × Value) => ()) Try.prog (default : World) 0 (fun _ => true) true 1 9 [.string s] = some (.lit (.string s.data.toList), []) := by
  unfold DataW.trod
  rw [Try.underlying9]
  simp [show s.size ≤ maxLen by unfold maxLen; omega]
set_option maxRecDepth 100000 in
theorem trodPair (s u : ByteArray) (hs : s.size ≤ 1000) (hu : u.size ≤ 1000) : DataW.trod (fun (_ : TypeId × Value) => ()) Try.prog (default : World) 0 (fun _ => true) true 2 132 [.string s, .string u] = some (.agg [.lit (.string s.data.toList), .lit (.string u.data.toList)], [] ++ []) := by
  refine trod_struct2_mk (n := 1) (cs := [.string s, .string u]) (y0 := (.lit (.string s.data.toList), [])) (y1 := (.lit (.string u.data.toList), [])) Try.underlying132 ?_ ?_ ?_
  · rw [cellsPair]; rfl
  · simp only [cells9]; exact trodStr s hs
  · simp only [cells9]; exact trodStr u hu
set_option maxRecDepth 100000 in
theorem formPair (s u : ByteArray) : (Value.agg #[.string s, .string u]).formed Try.prog 132 = true := by
  unfold Value.formed
  rw [Try.underlying132]
  simp [cellsPair]
set_option maxRecDepth 100000 in
theorem keyPair (s u : ByteArray) (hs : s.size ≤ 1000) (hu : u.size ≤ 1000) : ∃ kl, keyOf Try.prog 132 (.agg #[.string s, .string u]) = some kl :=
  ⟨_, (keyOf_asKey deepPair widePair (formPair s u) (⟨2, trodPair s u hs hu⟩ : DataW.Trod _ _ _ _ _ _ _ _ _ _)).1⟩
theorem zero3 (w : World) : (zeroValue 3).run Try.prog w = .ok (.int .i64 0) w := by kernel_rfl
theorem zero32 (w : World) : (zeroValue 32).run Try.prog w = .ok (.slice none 0 0) w := by kernel_rfl

section
variable {ds : List DeclU} {lim lo : Nat} {X : Nat → Prop} {b : Nat} {a : Option Addr} {l c g1 g2 g3 : Nat} {t : Int} {met : List Int}
abbrev Kin (w : World) (g n : Nat) (D : DataW Unit) : Prop := w.ownsMap Try.prog 132 (plainElem Try.prog 3) g n D
theorem kin_new {w : World} {g : Nat} (h : w.heap[g]? = some (.map #[] 0)) : Kin w g 0 (.map []) := ⟨#[], 0, h, ⟨by simp, stamped_empty 0, by simp⟩, Nat.le_refl _, rfl⟩
theorem kin_look {w : World} {g n : Nat} {D : DataW Unit} (h : Kin w g n D) {key : Value} {kl : Lit} (hk : keyOf Try.prog 132 key = some kl) {r : Int} (hat : D.atKey kl (.lit (.int .i64 0)) = .lit (.int .i64 r)) :
    (Instr.lookup 110 (.map (some g)) key false).run Try.prog w = .ok (.int .i64 r) w := by
  obtain ⟨r', h1, h2, _⟩ := h.lookup_int lawPair Try.underlying110 Try.underlying3 (zero3 w) hk
  rw [hat] at h2
  simp only [DataW.lit.injEq, Lit.int.injEq, true_and] at h2
  rw [h1, h2]
theorem kin_put {w : World} {g n : Nat} {D : DataW Unit} (h : Kin w g n D) (hn : n < 100) {key : Value} {kl : Lit} (hk : keyOf Try.prog 132 key = some kl) (r : Int) (hr : (Lit.int .i64 r).wf = true) :
    ∃ w', (Instr.mapUpdate 110 (.map (some g)) key (.int .i64 r)).run Try.prog w = .ok () w' ∧ Kin w' g (n + 1) (D.put kl (.lit (.int .i64 r))) ∧ w.grownBy w' (some g) :=
  h.update lawPair Try.underlying110 (by unfold maxLen; omega) hk (plainElem_int Try.underlying3 hr)
theorem kin_keep {w w' : World} {g n : Nat} {D : DataW Unit} (h : Kin w g n D) (hk : w'.heap[g]? = w.heap[g]?) : Kin w' g n D := by
  obtain ⟨es, ck, h1, h2⟩ := h
  exact ⟨es, ck, hk.trans h1, h2⟩
theorem is_typed (ds : List DeclU) (s u : ByteArray) : (decide (0 ≤ typedU ds s) && (decide (s = u) || comesU ds (typedU ds s) (findU ds u))) = isU ds s u := by
  rw [is_comes]
  unfold typedU
  cases h : (hasU ds (findU ds s) 2 || hasU ds (findU ds s) 1) with
  | false => simp
  | true =>
    have h0 : 0 ≤ findU ds s := by
      rw [Bool.or_eq_true] at h
      rcases h with h | h
      · exact (has_range h).1
      · exact (has_range h).1
    simp [h0]

def OII := (0 : Nat)
set_option maxHeartbeats 3200000 in
set_option maxRecDepth 100000 in
theorem is_any (W : World) (h : BkAny ds lim lo X W b a l c g1 g2 g3 t met) (ht : t ≤ 800) (hx : ∀ k, X k → k < W.heap.size) (x1 : X g1) (m1 : W.heap[g1]? = some (.map #[] 0)) (s u : ByteArray) (hs : s.size ≤ 1000) (hu : u.size ≤ 1000) :
    Calls Try.prog 54 #[.pointer (some ⟨b, 0, none⟩), .string s, .string u] W fun e W' => e = .returned (.bool (isU ds s u)) ∧ Below lo W W' := by
  obtain ⟨kl, hkl⟩ := keyPair s u hs hu
  have hkey := lawPair.key hkl
  obtain ⟨hbk0, ⟨nv, hblk⟩, hbs⟩ := h.bk
  have hlo := hbk0.lob
  have hg1 := hx g1 x1
  have hw1 : (W.alloc (.cells #[.string s, .string u] 132)).heap[W.heap.size]? = some (.cells #[.string s, .string u] 132 (0, 0)) := heap_alloc_new W _
  have hbk1 : BkAny ds lim lo (fun k => X k ∨ k = W.heap.size) (W.alloc (.cells #[.string s, .string u] 132)) b a l c g1 g2 g3 t met :=
    (h.turnX (fun k hk => hk.elim .inl (fun h => .inr (by omega)))).over (by simp) (fun k hk _ => Below.heap_alloc W _ k hk)
  have hx1 : ∀ k, (X k ∨ k = W.heap.size) → k < (W.alloc (.cells #[.string s, .string u] 132)).heap.size := fun k hk => by
    rcases hk with hk | rfl
    · have := hx k hk; simp; omega
    · simp
  have hkin : Kin (W.alloc (.cells #[.string s, .string u] 132)) g1 0 (.map []) := kin_new ((Below.heap_alloc W _ g1 hg1).trans m1)
  have hB1 := (Below.refl lo W).alloc (by omega) (.cells #[.string s, .string u] 132)
  have hloV : lo ≤ (W.alloc (.cells #[.string s, .string u] 132)).heap.size := by simp; omega
  have HBK := Lib.hid hbk1
  have HKIN := Lib.hid hkin
  have HB1 := Lib.hid hB1
  have HX1 := Lib.hid hx1
  have HW1 := Lib.hid hw1
  have HKL := Lib.hid hkl
  have HKEY := Lib.hid hkey
  have HLO := Lib.hid hloV
  obtain ⟨β, hβ⟩ : ∃ β, isU ds s u = β := ⟨_, rfl⟩
  rw [hβ]
  have HSU := Lib.hid ((is_typed ds s u).trans hβ)
  clear hβ
  clear h hx m1 hbk1 hx1 hkin hB1 hw1 hbk0 hblk hkl hkey hg1 hbs hloV hs hu
  go_enter Try.func54, Try.ntmps54
  go_upto_region 2 with fail
  generalize hV : W.alloc (.cells #[.string s, .string u] 132) = V at *
  generalize hP : W.heap.size = P at *
  clear hV
  obtain ⟨hbk0, ⟨nv, hblk⟩, hbs⟩ := HBK.out.bk
  have c3 : V.cell? ⟨b, 3, none⟩ = some (.map (some g1)) := by rw [Lib.cell_of_heap hblk]; rfl
  have q0 : V.cell? ⟨P, 0, none⟩ = some (.string s) := by rw [Lib.cell_of_heap HW1.out]; rfl
  have q1 : V.cell? ⟨P, 1, none⟩ = some (.string u) := by rw [Lib.cell_of_heap HW1.out]; rfl
  have hlk : ∀ n, (Instr.lookup 110 (.map (some g1)) (.agg #[.string s, .string u]) false).run Try.prog (V.drewN n) = .ok (.int .i64 0) (V.drewN n) := fun n => kin_look (w := V.drewN n) (kin_keep (w := V) HKIN.out rfl) HKL.out (by rfl)
  clear hbk0 hblk
  go_quiet (fail)
  go_upto_region 3 with fail
  have HBK2 := Lib.hid (show BkAny ds lim lo (fun k => X k ∨ k = P) (V.drewN nq).drew b a l c g1 g2 g3 t met from HBK.out.over (Nat.le_refl _) (fun _ _ _ => rfl))
  have HKIN2 := Lib.hid (show Kin (V.drewN nq).drew g1 0 (.map []) from kin_keep HKIN.out rfl)
  have HB2 := Lib.hid (show Below lo W (V.drewN nq).drew from ⟨HB1.out.os, HB1.out.tape, HB1.out.output, HB1.out.size, HB1.out.block⟩)
  have HW2 := Lib.hid (show (V.drewN nq).drew.heap[P]? = some (.cells #[.string s, .string u] 132 (0, 0)) from HW1.out)
  have c3 : (V.drewN nq).drew.cell? ⟨b, 3, none⟩ = some (.map (some g1)) := c3
  have q0 : (V.drewN nq).drew.cell? ⟨P, 0, none⟩ = some (.string s) := q0
  have q1 : (V.drewN nq).drew.cell? ⟨P, 1, none⟩ = some (.string u) := q1
  have hsz : (V.drewN nq).drew.heap.size = V.heap.size := rfl
  clear hlk
  refine AnyK.start 5 (fun w' => w' = (V.drewN nq).drew) rfl rfl (fun _ => ?_)
  generalize (V.drewN nq).drew = V2 at *
  obtain ⟨V3, hrun, hkin3, hgr3⟩ := kin_put HKIN2.out (by omega) HKL.out 2 (by decide)
  refine AnyK.take (oi := { dst := _, op := _, type := _, pos := _, after := _, guard := _ }) 0 ?_ rfl (by kernel_rfl) (fun _ _ _ h => h) (Or.inl ⟨by rfl, ?_⟩) rfl ?_
  rotate_left
  · (intro w' hS; subst hS; go_simp; with_reducible rfl)
  simp only [Act.put, List.setIfInBounds_toArray, List.set_cons_zero, List.set_cons_succ]
  refine AnyK.take (oi := { dst := _, op := _, type := _, pos := _, after := _, guard := _ }) 1 ?_ rfl (by kernel_rfl) (fun _ _ _ h => h) (Or.inl ⟨by rfl, ?_⟩) rfl ?_
  rotate_left
  · (intro w' hS; subst hS; go_simp; with_reducible rfl)
  simp only [Act.put, List.setIfInBounds_toArray, List.set_cons_zero, List.set_cons_succ]
  refine AnyK.take (oi := { dst := _, op := _, type := _, pos := _, after := _, guard := _ }) 2 ?_ rfl (by kernel_rfl) (fun _ _ _ h => h) (Or.inl ⟨by rfl, ?_⟩) rfl ?_
  rotate_left
  · (intro w' hS; subst hS; go_simp; with_reducible rfl)
  simp only [Act.put, List.setIfInBounds_toArray, List.set_cons_zero, List.set_cons_succ]
  refine AnyK.take (oi := { dst := _, op := _, type := _, pos := _, after := _, guard := _ }) 3 ?_ rfl (by kernel_rfl) (fun _ _ _ h => h) (Or.inl ⟨by rfl, ?_⟩) rfl ?_
  rotate_left
  · (intro w' hS; subst hS; go_simp; with_reducible rfl)
  simp only [Act.put, List.setIfInBounds_toArray, List.set_cons_zero, List.set_cons_succ]
  refine AnyK.take (oi := { dst := _, op := _, type := _, pos := _, after := _, guard := _ }) 4 ?_ rfl (by kernel_rfl) (fun _ _ _ h => h) (Or.inl ⟨by rfl, ?_⟩) rfl ?_
  rotate_left
  · (intro w' hS; subst hS; go_simp; with_reducible rfl)
  simp only [Act.put, List.setIfInBounds_toArray, List.set_cons_zero, List.set_cons_succ]
  refine AnyK.late 5 (by kernel_rfl) (by kernel_rfl) rfl (fun KK hK => ?_)
  go_simp
  refine hK _ _ ?_
  clear hK
  refine AnyK.done (by kernel_rfl) ?_ _
  have hbk3 := HBK2.out.over hgr3.size (fun k hk hne => hgr3.block k hk (fun h => by cases h; exact hne (.inl x1)))
  have hx3 : ∀ k, (X k ∨ k = P) → k < V3.heap.size := fun k hk => Nat.lt_of_lt_of_le (HX1.out k hk) (by have := hgr3.size; rw [hsz] at this; exact this)
  obtain ⟨hbk0, ⟨nv, hblk⟩, hbs3⟩ := hbk3.bk
  have cw : V3.cell? ⟨b, 0, none⟩ = some (.slice a l c) := by rw [Lib.cell_of_heap hblk]; rfl
  have hty := typed_any _ V3 b a l c ds cw hbk0.row hbk0.few s
  have hcm := comes_any V3 hbk3 (by omega) hx3 (typedU ds s) s u β HSU.out.symm
  have hg1l : lo ≤ g1 := hbk0.xlo g1 (.inl x1)
  have HX3 := Lib.hid hx3
  have HB3 := Lib.hid (show Below lo W V3 from HB2.out.trans ⟨hgr3.os, hgr3.tape, hgr3.output, hgr3.size, fun k hk => hgr3.block k (by rw [hsz]; have := HLO.out; omega) (fun h => by cases h; omega)⟩)
  have hPg : P ≠ g1 := fun h => by have := HW2.out; obtain ⟨es, ck, h1, _⟩ := HKIN2.out; rw [h, h1] at this; cases this
  have HW3 := Lib.hid ((hgr3.block P (heap_lt HW2.out) (fun h => hPg (by cases h; rfl))).trans HW2.out)
  have HK3 := Lib.hid hkin3
  generalize typedU ds s = ty at *
  clear hbk3 hx3 hbk0 hblk cw hgr3 hrun hkin3 c3 q0 q1 hsz
  go_wp2_with (first | (go_at_call 78; refine hty.mono ?_) | (go_at_call 77; refine hcm.mono ?_))
  rintro e V4 ⟨t', met', rfl, hbk4, hk4, ht4⟩
  clear hcm hty
  have HK4 := Lib.hid (kin_keep HK3.out (hk4.block g1 (HX3.out g1 (.inl x1)) (.inr (.inl x1))))
  have HW4 := Lib.hid ((hk4.block P (heap_lt HW3.out) (.inr (.inr rfl))).trans HW3.out)
  have hloV3 : lo ≤ V3.heap.size := by have := HX3.out g1 (.inl x1); omega
  have HB4 := Lib.hid (HB3.out.trans (hk4.below hloV3))
  obtain ⟨hbk0, ⟨nv, hblk⟩, hbs4⟩ := hbk4.bk
  have c3 : V4.cell? ⟨b, 3, none⟩ = some (.map (some g1)) := by rw [Lib.cell_of_heap hblk]; rfl
  have q0 : V4.cell? ⟨P, 0, none⟩ = some (.string s) := by rw [Lib.cell_of_heap HW4.out]; rfl
  have q1 : V4.cell? ⟨P, 1, none⟩ = some (.string u) := by rw [Lib.cell_of_heap HW4.out]; rfl
  have hs4 := hk4.size
  clear hbk0 hk4
  cases β with
  | false =>
    clear hbk4 hblk
    have hlk : ∀ n, (Instr.lookup 110 (.map (some g1)) (.agg #[.string s, .string u]) false).run Try.prog (V4.drewN n) = .ok (.int .i64 2) (V4.drewN n) := fun n => kin_look (w := V4.drewN n) (kin_keep (w := V4) HK4.out rfl) HKL.out (Go.Maps.atKey_put_same ⟨_, rfl⟩ HKEY.out _ _)
    go_upto_region 6 with fail
    go_quiet (fail)
    go_wp2_with fail
    go_returns
    exact ⟨rfl, (show Below lo W (V4.drewN nq) from ⟨HB4.out.os, HB4.out.tape, HB4.out.output, HB4.out.size, HB4.out.block⟩)⟩
  | true =>
    go_upto_region 5 with fail
    have HBK5 := Lib.hid (show BkAny ds lim lo (fun k => X k ∨ k = P) V4.drew b a l c g1 g2 g3 t' met' from hbk4.over (Nat.le_refl _) (fun _ _ _ => rfl))
    have HKIN5 := Lib.hid (show Kin V4.drew g1 1 ((DataW.map []).put kl (.lit (.int .i64 2))) from kin_keep HK4.out rfl)
    have HB5 := Lib.hid (show Below lo W V4.drew from ⟨HB4.out.os, HB4.out.tape, HB4.out.output, HB4.out.size, HB4.out.block⟩)
    have HW5 := Lib.hid (show V4.drew.heap[P]? = some (.cells #[.string s, .string u] 132 (0, 0)) from HW4.out)
    have c3 : V4.drew.cell? ⟨b, 3, none⟩ = some (.map (some g1)) := c3
    have q0 : V4.drew.cell? ⟨P, 0, none⟩ = some (.string s) := q0
    have q1 : V4.drew.cell? ⟨P, 1, none⟩ = some (.string u) := q1
    have hsz : V4.drew.heap.size = V4.heap.size := rfl
    clear hbk4 hblk
    refine AnyK.start 5 (fun w' => w' = V4.drew) rfl rfl (fun _ => ?_)
    generalize V4.drew = V5 at *
    obtain ⟨V6, hrun, hkin6, hgr6⟩ := kin_put HKIN5.out (by omega) HKL.out 1 (by decide)
    refine AnyK.take (oi := { dst := _, op := _, type := _, pos := _, after := _, guard := _ }) 0 ?_ rfl (by kernel_rfl) (fun _ _ _ h => h) (Or.inl ⟨by rfl, ?_⟩) rfl ?_
    rotate_left
    · (intro w' hS; subst hS; go_simp; with_reducible rfl)
    simp only [Act.put, List.setIfInBounds_toArray, List.set_cons_zero, List.set_cons_succ]
    refine AnyK.take (oi := { dst := _, op := _, type := _, pos := _, after := _, guard := _ }) 1 ?_ rfl (by kernel_rfl) (fun _ _ _ h => h) (Or.inl ⟨by rfl, ?_⟩) rfl ?_
    rotate_left
    · (intro w' hS; subst hS; go_simp; with_reducible rfl)
    simp only [Act.put, List.setIfInBounds_toArray, List.set_cons_zero, List.set_cons_succ]
    refine AnyK.take (oi := { dst := _, op := _, type := _, pos := _, after := _, guard := _ }) 2 ?_ rfl (by kernel_rfl) (fun _ _ _ h => h) (Or.inl ⟨by rfl, ?_⟩) rfl ?_
    rotate_left
    · (intro w' hS; subst hS; go_simp; with_reducible rfl)
    simp only [Act.put, List.setIfInBounds_toArray, List.set_cons_zero, List.set_cons_succ]
    refine AnyK.take (oi := { dst := _, op := _, type := _, pos := _, after := _, guard := _ }) 3 ?_ rfl (by kernel_rfl) (fun _ _ _ h => h) (Or.inl ⟨by rfl, ?_⟩) rfl ?_
    rotate_left
    · (intro w' hS; subst hS; go_simp; with_reducible rfl)
    simp only [Act.put, List.setIfInBounds_toArray, List.set_cons_zero, List.set_cons_succ]
    refine AnyK.take (oi := { dst := _, op := _, type := _, pos := _, after := _, guard := _ }) 4 ?_ rfl (by kernel_rfl) (fun _ _ _ h => h) (Or.inl ⟨by rfl, ?_⟩) rfl ?_
    rotate_left
    · (intro w' hS; subst hS; go_simp; with_reducible rfl)
    simp only [Act.put, List.setIfInBounds_toArray, List.set_cons_zero, List.set_cons_succ]
    refine AnyK.late 5 (by kernel_rfl) (by kernel_rfl) rfl (fun KK hK => ?_)
    go_simp
    refine hK _ _ ?_
    clear hK
    refine AnyK.done (by kernel_rfl) ?_ _
    have HB6 := Lib.hid (show Below lo W V6 from HB5.out.trans ⟨hgr6.os, hgr6.tape, hgr6.output, hgr6.size, fun k hk => hgr6.block k (by rw [hsz]; omega) (fun h => by cases h; omega)⟩)
    have HW6 := Lib.hid ((hgr6.block P (heap_lt HW5.out) (fun h => hPg (by cases h; rfl))).trans HW5.out)
    have HK6 := Lib.hid hkin6
    have hbk6 := HBK5.out.over hgr6.size (fun k hk hne => hgr6.block k hk (fun h => by cases h; exact hne (.inl x1)))
    obtain ⟨hbk0, ⟨nv, hblk⟩, hbs6⟩ := hbk6.bk
    clear c3 q0 q1 hgr6 hrun hkin6 hbk0 hbk6
    have c3 : V6.cell? ⟨b, 3, none⟩ = some (.map (some g1)) := by rw [Lib.cell_of_heap hblk]; rfl
    have q0 : V6.cell? ⟨P, 0, none⟩ = some (.string s) := by rw [Lib.cell_of_heap HW6.out]; rfl
    have q1 : V6.cell? ⟨P, 1, none⟩ = some (.string u) := by rw [Lib.cell_of_heap HW6.out]; rfl
    clear hblk
    have hlk : ∀ n, (Instr.lookup 110 (.map (some g1)) (.agg #[.string s, .string u]) false).run Try.prog (V6.drewN n) = .ok (.int .i64 1) (V6.drewN n) := fun n => kin_look (w := V6.drewN n) (kin_keep (w := V6) HK6.out rfl) HKL.out (Go.Maps.atKey_put_same ⟨_, rfl⟩ HKEY.out _ _)
    go_upto_region 6 with fail
    go_quiet (fail)
    go_wp2_with fail
    go_returns
    exact ⟨rfl, (show Below lo W (V6.drewN nq) from ⟨HB6.out.os, HB6.out.tape, HB6.out.output, HB6.out.size, HB6.out.block⟩)⟩
end

end Go.Proofs.Ytnjfbcoddbeggaa
