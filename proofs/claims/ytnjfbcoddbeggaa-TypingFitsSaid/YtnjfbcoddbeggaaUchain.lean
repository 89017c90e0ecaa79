/-
  The chain of a class, kept.
-/
import Derived.Test.YtnjfbcoddbeggaaUmap
namespace Go.Proofs.Ytnjfbcoddbeggaa
open Go Go.ChangeShapes Go.WideShapes Go.ChangeAt Go.RowKit Go.Joins Go.ChangeMaps Go.MapKept

section
variable {ds : List DeclU} {lim lo : Nat} {X : Nat → Prop} {b : Nat} {a : Option Addr} {l c g1 g2 g3 : Nat} {t : Int} {met : List Int}
abbrev Chn (w : World) (g n : Nat) (D : DataW Unit) : Prop := w.ownsMap Try.prog 3 (fun _ => some (.nil, [])) g n D
theorem lawInt : Maps.Keyed Try.prog 3 := Maps.int_keyed Try.underlying3
theorem keyInt (d : Int) (hd : (Lit.int .i64 d).wf = true) : keyOf Try.prog 3 (.int .i64 d) = some (.int .i64 d) := Maps.keyOf_int_mk Try.underlying3 hd
theorem chn_new {w : World} {g : Nat} (h : w.heap[g]? = some (.map #[] 0)) : Chn w g 0 (.map []) := ⟨#[], 0, h, ⟨by simp, stamped_empty 0, by simp⟩, Nat.le_refl _, rfl⟩
theorem chn_look {w : World} {g : Nat} (h : w.heap[g]? = some (.map #[] 0)) (d : Int) (hd : (Lit.int .i64 d).wf = true) :
    (Instr.lookup 112 (.map (some g)) (.int .i64 d) true).run Try.prog w = .ok (.tuple #[.slice none 0 0, .bool false]) w := by
  have F : Go.WideElems.Fit Try.prog 3 (fun _ => some ((.nil : DataW Unit), ([] : List MemPlace))) #[] 0 := ⟨by simp, stamped_empty 0, by simp⟩
  rcases Maps.fit_look true lawInt Try.underlying112 (zero32 w) h F (keyInt d hd) with ⟨h1, _⟩ | ⟨e0, y, hm, _⟩
  · exact h1
  · simp at hm
theorem chn_put {w : World} {g n : Nat} {D : DataW Unit} (h : Chn w g n D) (hn : n < 100) (d : Int) (hd : (Lit.int .i64 d).wf = true) (v : Value) :
    ∃ w', (Instr.mapUpdate 112 (.map (some g)) (.int .i64 d) v).run Try.prog w = .ok () w' ∧ w.grownBy w' (some g) := by
  obtain ⟨w', h1, _, h2⟩ := h.update (val := v) lawInt Try.underlying112 (by unfold maxLen; omega) (keyInt d hd) rfl
  exact ⟨w', h1, h2⟩
/-- a chain -/
inductive CPost (ds : List DeclU) (lim lo : Nat) (X : Nat → Prop) (W W' : World) (b : Nat) (a : Option Addr) (l c g1 g2 g3 : Nat) (t : Int) (xs : List Int) (e : Ending) : Prop
  | mk (v : Value) (met : List Int) (h1 : e = .returned v) (h2 : W'.ownsRow W.heap.size 3 1 v xs.length (xs.map iv)) (h3 : BkAny ds lim lo (fun k => X k ∨ v.ownBlock = some k) W' b a l c g1 g2 g3 t met) (h4 : Kp lo (fun k => X k ∧ k ≠ g3) W W') : CPost ds lim lo X W W' b a l c g1 g2 g3 t xs e

set_option maxHeartbeats 3200000 in
set_option maxRecDepth 100000 in
theorem chain_any (W : World) (h : BkAny ds lim lo X W b a l c g1 g2 g3 t met) (ht : t ≤ 800) (hx : ∀ k, X k → k < W.heap.size) (x3 : X g3) (m3 : W.heap[g3]? = some (.map #[] 0)) (d : Int) (hd : (Lit.int .i64 d).wf = true) :
    Calls Try.prog 50 #[.pointer (some ⟨b, 0, none⟩), .int .i64 d] W fun e W' => CPost ds lim lo X W W' b a l c g1 g2 g3 (t + 1) (chainU ds d) e := by
  obtain ⟨hbk0, ⟨nv, hblk⟩, hbs⟩ := h.bk
  have c5 : W.cell? ⟨b, 5, none⟩ = some (.map (some g3)) := by rw [Lib.cell_of_heap hblk]; rfl
  have hlk := chn_look m3 d hd
  have hln : (Builtin.len_ #[112] 3 #[.map (some g3)]).run Try.prog W = .ok (.int .i64 0) W := by simp [Builtin.len_, run_underlying Try.underlying112, MapKept.run_getObj_map m3]; rfl
  have hg3l := hbk0.xlo g3 x3
  have hwk := walk_any W h (by omega) hx d
  have HX := Lib.hid hx
  have HD := Lib.hid hd
  clear h hx hd hblk hbk0
  obtain ⟨C, hC⟩ : ∃ C, chainU ds d = C := ⟨_, rfl⟩
  rw [hC] at hwk ⊢
  clear hC
  go_enter Try.func50, Try.ntmps50
  go_wp2_with (go_at_call 73; refine hwk.mono ?_)
  rintro e V1 ⟨v, met', rfl, hown, hbk1, hk1⟩
  clear hwk hlk hln c5
  have m1 : V1.heap[g3]? = some (.map #[] 0) := (hk1.block g3 (HX.out g3 x3) (.inr x3)).trans m3
  obtain ⟨V2, hrun, hgr⟩ := chn_put (chn_new m1) (by omega) d HD.out v
  obtain ⟨hbk0, ⟨nv, hblk⟩, hbs1⟩ := hbk1.bk
  have c5 : V1.cell? ⟨b, 5, none⟩ = some (.map (some g3)) := by rw [Lib.cell_of_heap hblk]; rfl
  have hng : ∀ k, v.ownBlock = some k → k ≠ g3 := fun k hk h => by
    obtain ⟨_, _, cs, fz, h2⟩ := own_type hown hk
    rw [h, m1] at h2
    cases h2
  have HO := Lib.hid (own_keep1 hown (fun k hk => hgr.block k (own_type hown hk).2.1 (fun h => hng k hk (by cases h; rfl))))
  have HB := Lib.hid (hbk1.over hgr.size (fun k hk hne => hgr.block k hk (fun h => by cases h; exact hne (.inl x3))))
  have HK := Lib.hid ((hk1.sub (X' := fun k => X k ∧ k ≠ g3) (fun k _ h => .inl h.1)).trans (show Kp lo (fun k => X k ∧ k ≠ g3) V1 V2 from ⟨hgr.os, hgr.tape, hgr.output, hgr.size, fun k hk h => hgr.block k hk (fun he => by cases he; rcases h with h | h; omega; exact h.2 rfl)⟩))
  clear hown hbk1 hk1 hgr hng hblk hbk0 m1 m3
  go_wp2_with fail
  go_returns
  exact ⟨v, met', by simp, HO.out, HB.out, HK.out⟩
end

end Go.Proofs.Ytnjfbcoddbeggaa
