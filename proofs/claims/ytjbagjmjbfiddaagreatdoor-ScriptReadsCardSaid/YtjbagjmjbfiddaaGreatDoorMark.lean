/-
  A text in bytes that began as a string: the model marks its row behind its last cell; what append makes of it.
-/
import Derived.Test.YtjbagjmjbfiddaaGreatDoorMay
import Derived.Lib.AppendStr
import Derived.Laws.Append
import Derived.Laws.AppendOwn
namespace Go.Proofs.YtjbagjmjbfiddaaGreatDoor
open Go.ChangeShapes Go.WideShapes Go.ChangeAt Go.RowKit

/-- a row of bytes, xs the first of them, whose cells may be written -/
def TRow (w : World) (A : Nat) (v : Value) (xs : List Value) : Prop :=
  ∃ g cap cur fz, v = .slice (some ⟨g, 0, none⟩) xs.length cap ∧ A ≤ g ∧ w.heap[g]? = some (.cells cur 5 fz) ∧ (∀ j, j < cap → ¬ (fz.1 ≤ j ∧ j < fz.2)) ∧ xs.length ≤ cap ∧ cap ≤ maxLen ∧ cur.size = cap ∧ cur.toList.take xs.length = xs
/-- what the step leaves: all blocks but those from A on -/
theorem heap_set {w : World} {g j : Nat} {cur : Array Value} {t : TypeId} {fz : Nat × Nat} {u : Value} (h : w.heap[g]? = some (.cells cur t fz)) : (w.setCell ⟨g, j, none⟩ u).heap[g]? = some (.cells (cur.setIfInBounds j u) t fz) := by
  simp [World.setCell, Array.getElem?_modify, h]
theorem store_all (P : Program) (g o : Nat) (t : TypeId) (fz : Nat × Nat) : ∀ (vs : List Value) (i : Nat) (cur : Array Value) (w : World), w.heap[g]? = some (.cells cur t fz) →
    (∀ j, j < cur.size → ¬ (fz.1 ≤ j ∧ j < fz.2)) → o + i + vs.length ≤ cur.size → (∀ u ∈ vs, u.oneCell' = true) →
    ∃ w' cur', (storeCells ⟨g, o, none⟩ vs i).run P w = .ok () w' ∧ w.grownBy w' (some g) ∧ w'.heap[g]? = some (.cells cur' t fz) ∧ cur'.size = cur.size ∧ cur'.toList.take (o + i + vs.length) = cur.toList.take (o + i) ++ vs := by
  intro vs
  induction vs with
  | nil =>
    intro i cur w hg _ _ _
    exact ⟨w, cur, rfl, ⟨rfl, rfl, rfl, Nat.le_refl _, fun _ _ _ => rfl⟩, hg, rfl, by simp⟩
  | cons v rest ih =>
    intro i cur w hg hfz hl h1
    have hlt : o + i < cur.size := by simp at hl; omega
    have ha : (⟨g, o, none⟩ : Addr).add i = ⟨g, o + i, none⟩ := add_at rfl i
    have hc : w.cell? ⟨g, o + i, none⟩ = some cur[o + i] := by rw [Lib.cell_of_heap hg]; simp [hlt]
    have hf : w.frozen? ⟨g, o + i, none⟩ = false := by
      have := hfz (o + i) hlt
      unfold World.frozen?
      simp only [hg]
      obtain ⟨lo, hi⟩ := fz
      simp only at this ⊢
      rw [Bool.and_eq_false_iff]
      simp only [decide_eq_false_iff_not]
      omega
    obtain ⟨w', cur', r1, r2, r3, r4, r5⟩ := ih (i + 1) (cur.setIfInBounds (o + i) v) (w.setCell ⟨g, o + i, none⟩ v) (heap_set hg) (by simpa using hfz) (by simp at hl ⊢; omega) (fun u hu => h1 u (by simp [hu]))
    refine ⟨w', cur', ?_, ?_, r3, by simpa using r4, ?_⟩
    · simp only [storeCells, Sem.run_bind, ha]
      rw [run_store P w _ v _ (h1 v (by simp)), hc]
      simp only [hf, Bool.false_eq_true, if_false, Result.andThen_ok]
      exact r1
    · refine ⟨r2.os, r2.tape, r2.output, by have := r2.size; simpa [World.setCell] using this, fun k hk hne => ?_⟩
      rw [r2.block k (by simpa [World.setCell] using hk) hne]
      exact setCell_other w g (o + i) v k (fun e => hne (by rw [e]))
    · have e1 : o + i + (v :: rest).length = o + (i + 1) + rest.length := by simp; omega
      rw [e1, r5, Array.toList_setIfInBounds]
      have e2 : (cur.toList.set (o + i) v).take (o + (i + 1)) = cur.toList.take (o + i) ++ [v] := by
        have hlt' : o + i < cur.toList.length := by simpa using hlt
        apply List.ext_getElem?
        intro j
        rw [List.getElem?_take, List.getElem?_append]
        simp only [List.length_take, Nat.min_eq_left (Nat.le_of_lt hlt'), List.getElem?_set, List.getElem?_take]
        rcases Nat.lt_trichotomy j (o + i) with h | h | h
        · rw [if_pos (by omega), if_neg (by omega), if_pos h, if_pos h]
        · subst h
          rw [if_pos (by omega), if_pos rfl, if_pos hlt', if_neg (by omega)]
          simp
        · rw [if_neg (by omega), if_neg (by omega), List.getElem?_eq_none (by simp; omega)]

      rw [e2]
      simp

theorem info8 : (Tryz.prog.info? 5).map (fun i => (i.zero, i.size, i.bytes)) = some (some (.int .u8 0), 1, 1) := by kernel_rfl
theorem trow_cells {w : World} {A : Nat} {v : Value} {xs : List Value} (h : TRow w A v xs) : ∃ g cap, v = .slice (some ⟨g, 0, none⟩) xs.length cap ∧ A ≤ g ∧ g < w.heap.size ∧ ∀ j u, xs[j]? = some u → w.cell? ((⟨g, 0, none⟩ : Addr).add j) = some u := by
  obtain ⟨g, cap, cur, fz, hv, hA, hg, _, hn, _, hs, ht⟩ := h
  refine ⟨g, cap, hv, hA, heap_lt hg, fun j u hu => ?_⟩
  rw [add_at rfl, Lib.cell_of_heap hg]
  rw [← ht, List.getElem?_take] at hu
  split at hu
  · simpa using hu
  · cases hu
theorem append_mark_str {w : World} {A : Nat} {v : Value} {xs : List Value} (h : TRow w A v xs) (hA : A ≤ w.heap.size) (s : ByteArray) (hb : xs.length + s.size ≤ 100000000) (ty : TypeId) :
    ∃ v' w', (Builtin.append_ #[49, 9] ty #[v, .string s]).run Tryz.prog w = .ok v' w' ∧ TRow w' A v' (xs ++ Lib.strCells s) ∧ w.grownBy w' v.ownBlock := by
  obtain ⟨i, hi, hz0, hz1, hz2⟩ := info_parts info8
  obtain ⟨g0, cap0, hv0, _, _, hcells⟩ := trow_cells h
  obtain ⟨g, cap, cur, fz, rfl, hAg, hg, hfz, hn, hcm, hcs, htk⟩ := h
  simp only [Value.slice.injEq, Option.some.injEq, Addr.mk.injEq, and_true, true_and] at hv0
  obtain ⟨rfl, rfl⟩ := hv0
  have hlen : (xs ++ Lib.strCells s).length = xs.length + s.size := by rw [List.length_append, Lib.strCells_length]
  by_cases hroom : xs.length + s.size ≤ cap
  · obtain ⟨w', cur', r1, r2, r3, r4, r5⟩ := store_all Tryz.prog g xs.length 5 fz (Lib.strCells s) 0 cur w hg (by rw [hcs]; exact hfz) (by rw [Lib.strCells_length]; omega) (Lib.strCells_oneCell s)
    have hf := Lib.run_firstCells_string (P := Tryz.prog) w 1 s
    refine ⟨.slice (some ⟨g, 0, none⟩) (xs.length + s.size) cap, w', ?_, ⟨g, cap, cur', fz, by rw [hlen], hAg, r3, hfz, by rw [hlen]; exact hroom, hcm, by rw [r4, hcs], ?_⟩, by simpa [Value.ownBlock] using r2⟩
    · simp [Builtin.append_, run_underlying Tryz.underlying49, run_underlying Tryz.underlying9, sizeOf, typeInfo, hi, hz1, Builtin.lenOf, hroom, hf, Addr.add_lit, r1]
    · rw [hlen]
      rw [Nat.add_zero, Lib.strCells_length] at r5
      rw [r5, htk]
  · have hr := Lib.run_append_grow_string (P := Tryz.prog) w 49 9 ty 5 i (.int .u8 0) Tryz.underlying49 Tryz.underlying9 hi hz0 ⟨g, 0, none⟩ xs.length cap xs (by rw [hz1]; omega) hcells s (by omega) (by omega) (by rw [hz2]; exact growslice_fits (by omega) (by omega))
    have hge := grownCap_ge w (xs.length + s.size) cap 5
    have hcm2 : grownCap w (xs.length + s.size) cap 5 ≤ maxLen := grownCap_le_maxLen w (xs.length + s.size) cap 5 (by unfold maxLen; omega)
    refine ⟨_, _, hr, ⟨w.heap.size, _, _, (0, 0), by rw [hlen], hA, heap_alloc_new w.drew _, fun j _ h => by simp at h, by rw [hlen]; exact hge, hcm2, ?_, ?_⟩, ⟨rfl, rfl, rfl, by simp, fun k hk _ => Lib.alloc_old w.drew _ k hk⟩⟩
    · simp [size_zeroCells, Lib.strCells_length, show (Value.int IntKind.u8 0).cells.size = 1 from rfl]
      omega
    · simp only [Array.toList_append, List.append_assoc]
      rw [← List.append_assoc]
      exact List.take_left
theorem append_mark_one {w : World} {A : Nat} {v : Value} {xs : List Value} (h : TRow w A v xs) (hA : A ≤ w.heap.size) (a : Addr) (c : Int) (hc : w.cell? (a.add 0) = some (.int .u8 c)) (hb : xs.length ≤ 100000000) (ty : TypeId) :
    ∃ v' w', (Builtin.append_ #[49, 49] ty #[v, .slice (some a) 1 1]).run Tryz.prog w = .ok v' w' ∧ TRow w' A v' (xs ++ [.int .u8 c]) ∧ w.grownBy w' v.ownBlock := by
  obtain ⟨i, hi, hz0, hz1, hz2⟩ := info_parts info8
  obtain ⟨g0, cap0, hv0, _, _, hcells⟩ := trow_cells h
  obtain ⟨g, cap, cur, fz, rfl, hAg, hg, hfz, hn, hcm, hcs, htk⟩ := h
  simp only [Value.slice.injEq, Option.some.injEq, Addr.mk.injEq, and_true, true_and] at hv0
  obtain ⟨rfl, rfl⟩ := hv0
  have hlen : (xs ++ [Value.int .u8 c]).length = xs.length + 1 := by simp
  have hnews : ∀ j u, [Value.int .u8 c][j]? = some u → w.cell? (a.add j) = some u := by
    intro j u hj
    match j, hj with
    | 0, hj => simp at hj; subst hj; exact hc
  by_cases hroom : xs.length + 1 ≤ cap
  · obtain ⟨w', cur', r1, r2, r3, r4, r5⟩ := store_all Tryz.prog g xs.length 5 fz [.int .u8 c] 0 cur w hg (by rw [hcs]; exact hfz) (by simp; omega) (fun u hu => by simp at hu; subst hu; rfl)
    have hf := run_firstCells_some (P := Tryz.prog) w 1 1 a 1 1 [.int .u8 c] rfl hnews
    refine ⟨.slice (some ⟨g, 0, none⟩) (xs.length + 1) cap, w', ?_, ⟨g, cap, cur', fz, by rw [hlen], hAg, r3, hfz, by rw [hlen]; exact hroom, hcm, by rw [r4, hcs], ?_⟩, by simpa [Value.ownBlock] using r2⟩
    · simp [Builtin.append_, run_underlying Tryz.underlying49, sizeOf, typeInfo, hi, hz1, Builtin.lenOf, hroom, hf, Addr.add_lit, r1]
    · rw [hlen]
      rw [Nat.add_zero] at r5
      exact r5.trans (by rw [htk])
  · have hr := run_append_grow (P := Tryz.prog) w 49 ty 5 i (.int .u8 0) Tryz.underlying49 hi hz0 ⟨g, 0, none⟩ xs.length cap xs (by rw [hz1]; omega) hcells a 1 1 [.int .u8 c] (by rw [hz1]; rfl) hnews (by omega) (by omega) (by rw [hz2]; exact growslice_fits (by omega) (by omega))
    have hge := grownCap_ge w (xs.length + 1) cap 5
    have hcm2 : grownCap w (xs.length + 1) cap 5 ≤ maxLen := grownCap_le_maxLen w (xs.length + 1) cap 5 (by unfold maxLen; omega)
    refine ⟨_, _, hr, ⟨w.heap.size, _, _, (0, 0), by rw [hlen], hA, heap_alloc_new w.drew _, fun j _ h => by simp at h, by rw [hlen]; exact hge, hcm2, ?_, ?_⟩, ⟨rfl, rfl, rfl, by simp, fun k hk _ => Lib.alloc_old w.drew _ k hk⟩⟩
    · simp [size_zeroCells, show (Value.int IntKind.u8 0).cells.size = 1 from rfl]
      omega
    · simp only [Array.toList_append, List.append_assoc]
      rw [← List.append_assoc]
      exact List.take_left
end Go.Proofs.YtjbagjmjbfiddaaGreatDoor
