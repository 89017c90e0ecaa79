/-
  TableAlike: of any two methods.
-/
import Derived.Test.YthfefeekfidfoaaOpen
import Derived.Test.YthfefeekfidfoaaRunA
import Derived.Test.YthfefeekfidfoaaRunB
namespace Go.Proofs.Ythfefeekfidfoaa
open Go Go.Proofs.Ythfefeekfidfoaa.Sx
open Go.ChangeShapes Go.WideShapes Go.ChangeAt Go.RowKit Go.Joins Go.Deep
def cellAt (l : List Value) (i : Nat) : Value := l.getD i .nilFunc
theorem leaf_at {l : List Value} (h : ∀ v ∈ l, Leaf v) (i : Nat) : Leaf (cellAt l i) := by
  unfold cellAt
  rw [List.getD_eq_getElem?_getD]
  cases hi : l[i]? with
  | none => exact leaf_nil
  | some v => exact h v (List.mem_of_getElem? hi)
theorem ty_leaf (t : Ty4) : ∀ v ∈ t.cells, Leaf v := cons_mem (leaf_int _ _) (cons_mem (leaf_int _ _) (cons_mem (leaf_int _ _) (cons_mem (leaf_string _) nil_mem)))
theorem var_leaf (x : Var8) : ∀ v ∈ x.cells, Leaf v := cons_mem (leaf_string _) (app_mem (ty_leaf _) (cons_mem (leaf_int _ _) (cons_mem (leaf_int _ _) (cons_mem (leaf_int _ _) nil_mem))))
section
variable {W : World} {va vb : Value}
def Met.cells (m : Met W va) : List Value := [.string m.nm, .bool m.b1, .bool m.b2, .bool m.b3, .slice m.a m.len m.cap] ++ (m.t.cells ++ [m.vv, m.vb])
theorem met_leaf (m : Met W va) : ∀ v ∈ m.cells, Leaf v :=
  app_mem (cons_mem (leaf_string _) (cons_mem (leaf_bool _) (cons_mem (leaf_bool _) (cons_mem (leaf_bool _) (cons_mem (leaf_slice _ _ _) nil_mem))))) (app_mem (ty_leaf _) (cons_mem m.lv (cons_mem m.lb nil_mem)))
def Met.x (m : Met W va) : Addr := m.a.getD ⟨0, 0, none⟩
def val (m : Met W va) (mb : Met W vb) (nm : ByteArray) (i : Nat) : Value :=
  if i < 11 then cellAt m.cells i else if i < 14 then .bool (!(match i with | 11 => m.b1 | 12 => m.b2 | _ => m.b3)) else if i < 20 then .nilFunc else if i < 31 then cellAt mb.cells (i - 20)
  else if i < 41 then .string nm else if i < 100 then .nilFunc else if i < 200 then cellAt (m.p ((i - 100) / 10)).cells ((i - 100) % 10) else if i < 300 then cellAt (mb.p ((i - 200) / 10)).cells ((i - 200) % 10)
  else if i < 350 then .pointer (some (m.x.add (8 * (i - 300)))) else if i < 400 then .pointer (some ((m.x.add (8 * (i - 350))).add 1))
  else if i < 450 then .pointer (some (mb.x.add (8 * (i - 400)))) else .pointer (some ((mb.x.add (8 * (i - 450))).add 1))
theorem val_leaf (m : Met W va) (mb : Met W vb) (nm : ByteArray) (i : Nat) : Leaf (val m mb nm i) := by
  unfold val
  by_cases h0 : i < 11
  · rw [if_pos h0]; exact leaf_at (met_leaf _) _
  rw [if_neg h0]
  by_cases h1 : i < 14
  · rw [if_pos h1]; exact leaf_bool _
  rw [if_neg h1]
  by_cases h2 : i < 20
  · rw [if_pos h2]; exact leaf_nil
  rw [if_neg h2]
  by_cases h3 : i < 31
  · rw [if_pos h3]; exact leaf_at (met_leaf _) _
  rw [if_neg h3]
  by_cases h4 : i < 41
  · rw [if_pos h4]; exact leaf_string _
  rw [if_neg h4]
  by_cases h5 : i < 100
  · rw [if_pos h5]; exact leaf_nil
  rw [if_neg h5]
  by_cases h6 : i < 200
  · rw [if_pos h6]; exact leaf_at (var_leaf _) _
  rw [if_neg h6]
  by_cases h7 : i < 300
  · rw [if_pos h7]; exact leaf_at (var_leaf _) _
  rw [if_neg h7]
  by_cases h8 : i < 350
  · rw [if_pos h8]; exact leaf_ptr _
  rw [if_neg h8]
  by_cases h9 : i < 400
  · rw [if_pos h9]; exact leaf_ptr _
  rw [if_neg h9]
  by_cases h10 : i < 450
  · rw [if_pos h10]; exact leaf_ptr _
  rw [if_neg h10]
  exact leaf_ptr _
def sgT (m : Met W va) (mb : Met W vb) (nm : ByteArray) (num : Nat → Int) (X : List (Nat × Obj)) : Sg :=
  ⟨num, val m mb nm, X, fun i => (val_leaf m mb nm i).1, fun i => (val_leaf m mb nm i).2⟩
variable {m : Met W va} {mb : Met W vb} {nm : ByteArray} {num : Nat → Int} {X : List (Nat × Obj)}
theorem den_o (i : Nat) (E : Env) : den (sgT m mb nm num X) E (oN i) = val m mb nm i := den_opq E i
theorem valA {i : Nat} (h : i < 11) : val m mb nm i = cellAt m.cells i := by unfold val; rw [if_pos h]
theorem valB {i : Nat} (h : i < 11) : val m mb nm (20 + i) = cellAt mb.cells i := by
  unfold val
  rw [if_neg (by omega), if_neg (by omega), if_neg (by omega), if_pos (by omega), Nat.add_sub_cancel_left]
theorem valN : val m mb nm 40 = .string nm := rfl
theorem valP {i j : Nat} (hi : i < 10) (hj : j < 10) : val m mb nm (100 + 10 * i + j) = cellAt (m.p i).cells j := by
  unfold val
  rw [if_neg (by omega), if_neg (by omega), if_neg (by omega), if_neg (by omega), if_neg (by omega), if_neg (by omega), if_pos (by omega), show (100 + 10 * i + j - 100) / 10 = i by omega, show (100 + 10 * i + j - 100) % 10 = j by omega]
theorem valQ {i j : Nat} (hi : i < 10) (hj : j < 10) : val m mb nm (200 + 10 * i + j) = cellAt (mb.p i).cells j := by
  unfold val
  rw [if_neg (by omega), if_neg (by omega), if_neg (by omega), if_neg (by omega), if_neg (by omega), if_neg (by omega), if_neg (by omega), if_pos (by omega), show (200 + 10 * i + j - 200) / 10 = i by omega, show (200 + 10 * i + j - 200) % 10 = j by omega]
theorem val300 {i : Nat} (h : i < 50) : val m mb nm (300 + i) = .pointer (some (m.x.add (8 * i))) := by
  unfold val
  rw [if_neg (by omega), if_neg (by omega), if_neg (by omega), if_neg (by omega), if_neg (by omega), if_neg (by omega), if_neg (by omega), if_neg (by omega), if_pos (by omega), Nat.add_sub_cancel_left]
theorem val350 {i : Nat} (h : i < 50) : val m mb nm (300 + 50 + i) = .pointer (some ((m.x.add (8 * i)).add 1)) := by
  unfold val
  rw [if_neg (by omega), if_neg (by omega), if_neg (by omega), if_neg (by omega), if_neg (by omega), if_neg (by omega), if_neg (by omega), if_neg (by omega), if_neg (by omega), if_pos (by omega), show 300 + 50 + i - 350 = i by omega]
theorem val400 {i : Nat} (h : i < 50) : val m mb nm (400 + i) = .pointer (some (mb.x.add (8 * i))) := by
  unfold val
  rw [if_neg (by omega), if_neg (by omega), if_neg (by omega), if_neg (by omega), if_neg (by omega), if_neg (by omega), if_neg (by omega), if_neg (by omega), if_neg (by omega), if_neg (by omega), if_pos (by omega), Nat.add_sub_cancel_left]
theorem val450 {i : Nat} : val m mb nm (400 + 50 + i) = .pointer (some ((mb.x.add (8 * i)).add 1)) := by
  unfold val
  rw [if_neg (by omega), if_neg (by omega), if_neg (by omega), if_neg (by omega), if_neg (by omega), if_neg (by omega), if_neg (by omega), if_neg (by omega), if_neg (by omega), if_neg (by omega), if_neg (by omega), show 400 + 50 + i - 450 = i by omega]
theorem den_tyO {b : Nat} {t : Ty4} (h : ∀ j, j < 4 → val m mb nm (b + j) = cellAt t.cells j) (E : Env) : den (sgT m mb nm num X) E (tyO b) = .agg t.cells.toArray := by
  have h0 := h 0 (by omega)
  rw [Nat.add_zero] at h0
  rw [tyO, den_agg]
  simp only [List.map_toArray, List.map_cons, List.map_nil, den_o, h0, h 1 (by omega), h 2 (by omega), h 3 (by omega)]
  rfl
theorem den_varO {b : Nat} {x : Var8} (h : ∀ j, j < 8 → val m mb nm (b + j) = cellAt x.cells j) (E : Env) : den (sgT m mb nm num X) E (varO b) = .agg x.cells.toArray := by
  have h0 := h 0 (by omega)
  rw [Nat.add_zero] at h0
  rw [varO, den_agg]
  simp only [List.map_toArray, List.map_cons, List.map_nil, den_o, h0, h 1 (by omega), h 2 (by omega), h 3 (by omega), h 4 (by omega), h 5 (by omega), h 6 (by omega), h 7 (by omega)]
  rfl
theorem den_metA (E : Env) : den (sgT m mb nm num X) E (metO 0) = va := by
  rw [metO, den_agg]
  simp only [List.map_toArray, List.map_cons, List.map_nil, den_o, valA (show 0 < 11 by omega), valA (show 0 + 1 < 11 by omega), valA (show 0 + 2 < 11 by omega), valA (show 0 + 3 < 11 by omega), valA (show 0 + 4 < 11 by omega), valA (show 0 + 5 < 11 by omega), valA (show 0 + 6 < 11 by omega), valA (show 0 + 7 < 11 by omega), valA (show 0 + 8 < 11 by omega), valA (show 0 + 9 < 11 by omega), valA (show 0 + 10 < 11 by omega)]
  exact m.eq.symm
theorem den_metB (E : Env) : den (sgT m mb nm num X) E (metO 20) = vb := by
  have h0 := valB (m := m) (mb := mb) (nm := nm) (i := 0) (by omega)
  rw [Nat.add_zero] at h0
  rw [metO, den_agg]
  simp only [List.map_toArray, List.map_cons, List.map_nil, den_o, h0, valB (show 1 < 11 by omega), valB (show 2 < 11 by omega), valB (show 3 < 11 by omega), valB (show 4 < 11 by omega), valB (show 5 < 11 by omega), valB (show 6 < 11 by omega), valB (show 7 < 11 by omega), valB (show 8 < 11 by omega), valB (show 9 < 11 by omega), valB (show 10 < 11 by omega)]
  exact mb.eq.symm
theorem den_a4 (E : Env) : den (sgT m mb nm num X) E (oN 4) = .slice m.a m.len m.cap := (den_o 4 E).trans (valA (by omega))
theorem den_b4 (E : Env) : den (sgT m mb nm num X) E (oN 24) = .slice mb.a mb.len mb.cap := (den_o 24 E).trans (valB (i := 4) (by omega))
theorem den_n (E : Env) : den (sgT m mb nm num X) E (oN 40) = .string nm := den_o 40 E
theorem den_at (E : Env) : den (sgT m mb nm num X) E (tyO 5) = .agg m.t.cells.toArray := den_tyO (fun j hj => by
  rw [valA (by omega)]
  match j, hj with
  | 0, _ => rfl
  | 1, _ => rfl
  | 2, _ => rfl
  | 3, _ => rfl
  | j + 4, h => omega) E
theorem den_bt (E : Env) : den (sgT m mb nm num X) E (tyO 25) = .agg mb.t.cells.toArray := den_tyO (fun j hj => by
  match j, hj with
  | 0, _ => exact valB (i := 5) (by omega)
  | 1, _ => exact valB (i := 6) (by omega)
  | 2, _ => exact valB (i := 7) (by omega)
  | 3, _ => exact valB (i := 8) (by omega)
  | j + 4, h => omega) E
theorem var_ty {x : Var8} {j : Nat} (h : j < 4) : cellAt x.cells (j + 1) = cellAt x.t.cells j := by
  match j, h with
  | 0, _ => rfl
  | 1, _ => rfl
  | 2, _ => rfl
  | 3, _ => rfl
  | j + 4, h => omega
theorem den_pt {i : Nat} (hi : i < 10) (E : Env) : den (sgT m mb nm num X) E (tyO (101 + 10 * i)) = .agg (m.p i).t.cells.toArray := den_tyO (fun j hj => by
  rw [show 101 + 10 * i + j = 100 + 10 * i + (j + 1) by omega, valP hi (by omega), var_ty hj]) E
theorem den_qt {i : Nat} (hi : i < 10) (E : Env) : den (sgT m mb nm num X) E (tyO (201 + 10 * i)) = .agg (mb.p i).t.cells.toArray := den_tyO (fun j hj => by
  rw [show 201 + 10 * i + j = 200 + 10 * i + (j + 1) by omega, valQ hi (by omega), var_ty hj]) E
theorem nots_ok : ∀ e ∈ nots, ExtOk (sgT m mb nm num X) e :=
  cons_mem (ext_not (b := m.b1) (fun E => (den_o 1 E).trans (valA (by omega))) (fun E => den_o 11 E))
    (cons_mem (ext_not (b := m.b2) (fun E => (den_o 2 E).trans (valA (by omega))) (fun E => den_o 12 E))
      (cons_mem (ext_not (b := m.b3) (fun E => (den_o 3 E).trans (valA (by omega))) (fun E => den_o 13 E)) nil_mem))
end
/-- the block that a row lies in -/
def Has {W : World} {va : Value} (m : Met W va) (X : List (Nat × Obj)) : Prop := 0 < m.len → m.a = some m.x ∧ ∃ o, (m.x.block, o) ∈ X ∧ W.heap[m.x.block]? = some o
theorem block_add (x : Addr) (i : Nat) : (x.add i).block = x.block := by unfold Addr.add; split <;> rfl
theorem has_of {W : World} {va : Value} (m : Met W va) : ∃ X : List (Nat × Obj), (∀ p ∈ X, W.heap[p.1]? = some p.2) ∧ Has m X := by
  by_cases hl : 0 < m.len
  · cases ha : m.a with
    | none => have := m.nil ha; omega
    | some x =>
      have hx : m.x = x := by unfold Met.x; rw [ha]; rfl
      have h := m.row x ha 0 hl 0 (.string (m.p 0).nm) rfl
      unfold World.cell? at h
      rw [block_add] at h
      cases ho : W.heap[x.block]? with
      | none => rw [ho] at h; cases h
      | some o => exact ⟨[(x.block, o)], cons_mem ho nil_mem, fun _ => ⟨by rw [hx]; exact ha, o, by rw [hx]; exact List.mem_singleton.2 rfl, by rw [hx]; exact ho⟩⟩
  · exact ⟨[], nil_mem, fun h => absurd h hl⟩
theorem var_len (x : Var8) : x.cells.length = 8 := rfl
theorem var_at {x : Var8} {j : Nat} {v : Value} (h : x.t.cells[j]? = some v) : x.cells[j + 1]? = some v := by
  have hl : j < x.t.cells.length := (List.getElem?_eq_some_iff.1 h).1
  show (x.t.cells ++ [.int .i64 x.i, .int .i64 x.d, .int .i64 x.s])[j]? = _
  rw [List.getElem?_append_left hl]
  exact h
section
variable {W : World} {va vb : Value} {m : Met W va} {mb : Met W vb} {nm : ByteArray} {num : Nat → Int} {X : List (Nat × Obj)}
theorem rowA_ok (hx : Has m X) (hn : m.len ≤ 5) : ∀ e ∈ row 4 100 300 m.len, ExtOk (sgT m mb nm num X) e := by
  intro e he
  obtain ⟨i, hi, he2⟩ := List.mem_flatMap.1 he
  clear he
  have hi := List.mem_range.1 hi
  obtain ⟨ha, o, ho, hW⟩ := hx (by omega)
  have e30 : ∀ E, den (sgT m mb nm num X) E (oN (300 + i)) = .pointer (some (m.x.add (8 * i))) := fun E => (den_o _ E).trans (val300 (by omega))
  have e35 : ∀ E, den (sgT m mb nm num X) E (oN (300 + 50 + i)) = .pointer (some ((m.x.add (8 * i)).add 1)) := fun E => (den_o _ E).trans (val350 (by omega))
  have b1 : (m.x.add (8 * i)).block = m.x.block := block_add _ _
  have b2 : ((m.x.add (8 * i)).add 1).block = m.x.block := (block_add _ _).trans b1
  revert e he2
  refine cons_mem ?_ (cons_mem ?_ (cons_mem ?_ (cons_mem ?_ nil_mem)))
  · exact ext_idx (x := m.x) (len := m.len) (cap := m.cap) (fun E => by rw [den_a4, ← ha]) e30 hi
  · refine ext_load (t := 30) (y := ⟨Try.t30, Try.t29.desc, true⟩) (cs := (m.p i).cells) (W := W) (obj := o) (fun _ => by kernel_rfl) (by rw [d29]; rfl) (by rw [var_len]; kernel_rfl) e30 (den_varO fun j hj => valP (by omega) (by omega)) (by rw [b1]; exact ho) (by rw [b1]; exact hW) ?_
    intro j v hv
    rw [add_add]
    exact m.row m.x ha i hi j v hv
  · exact ext_field e30 e35
  · refine ext_load (t := 24) (y := ⟨Try.t24, Try.t23.desc, true⟩) (cs := (m.p i).t.cells) (W := W) (obj := o) (fun _ => by kernel_rfl) (by rw [d23]; rfl) (by show 4 = _; kernel_rfl) e35 (fun E => ?_) (by rw [b2]; exact ho) (by rw [b2]; exact hW) ?_
    · rw [show 100 + 10 * i + 1 = 101 + 10 * i by omega]
      exact den_pt (by omega) E
    · intro j v hv
      rw [add_add, add_add]
      have := m.row m.x ha i hi (j + 1) v (var_at hv)
      rw [← this]
      congr 2
      omega
theorem rowB_ok (hx : Has mb X) (hn : mb.len ≤ 5) : ∀ e ∈ row 24 200 400 mb.len, ExtOk (sgT m mb nm num X) e := by
  intro e he
  obtain ⟨i, hi, he2⟩ := List.mem_flatMap.1 he
  clear he
  have hi := List.mem_range.1 hi
  obtain ⟨ha, o, ho, hW⟩ := hx (by omega)
  have e30 : ∀ E, den (sgT m mb nm num X) E (oN (400 + i)) = .pointer (some (mb.x.add (8 * i))) := fun E => (den_o _ E).trans (val400 (by omega))
  have e35 : ∀ E, den (sgT m mb nm num X) E (oN (400 + 50 + i)) = .pointer (some ((mb.x.add (8 * i)).add 1)) := fun E => (den_o _ E).trans val450
  have b1 : (mb.x.add (8 * i)).block = mb.x.block := block_add _ _
  have b2 : ((mb.x.add (8 * i)).add 1).block = mb.x.block := (block_add _ _).trans b1
  revert e he2
  refine cons_mem ?_ (cons_mem ?_ (cons_mem ?_ (cons_mem ?_ nil_mem)))
  · exact ext_idx (x := mb.x) (len := mb.len) (cap := mb.cap) (fun E => by rw [den_b4, ← ha]) e30 hi
  · refine ext_load (t := 30) (y := ⟨Try.t30, Try.t29.desc, true⟩) (cs := (mb.p i).cells) (W := W) (obj := o) (fun _ => by kernel_rfl) (by rw [d29]; rfl) (by rw [var_len]; kernel_rfl) e30 (den_varO fun j hj => valQ (by omega) (by omega)) (by rw [b1]; exact ho) (by rw [b1]; exact hW) ?_
    intro j v hv
    rw [add_add]
    exact mb.row mb.x ha i hi j v hv
  · exact ext_field e30 e35
  · refine ext_load (t := 24) (y := ⟨Try.t24, Try.t23.desc, true⟩) (cs := (mb.p i).t.cells) (W := W) (obj := o) (fun _ => by kernel_rfl) (by rw [d23]; rfl) (by show 4 = _; kernel_rfl) e35 (fun E => ?_) (by rw [b2]; exact ho) (by rw [b2]; exact hW) ?_
    · rw [show 200 + 10 * i + 1 = 201 + 10 * i by omega]
      exact den_qt (by omega) E
    · intro j v hv
      rw [add_add, add_add]
      have := mb.row mb.x ha i hi (j + 1) v (var_at hv)
      rw [← this]
      congr 2
      omega
theorem self_ok (hn : m.len ≤ 5) : ∀ e ∈ self m.len, ExtOk (sgT m mb nm num X) e := by
  intro e he
  obtain ⟨i, hi, he2⟩ := List.mem_flatMap.1 he
  clear he
  have hi := List.mem_range.1 hi
  exact eq2_ok (den_pt (by omega)) (den_pt (by omega)) (Ty4.eq_self _) e he2
theorem eqs_ok {k : Nat} (hn : m.len ≤ 5) (h1 : ∀ i, i < k → i < m.len → (m.p i).t.eq (mb.p i).t = true) (h2 : k < m.len → (m.p k).t.eq (mb.p k).t = false) : ∀ e ∈ eqs m.len k, ExtOk (sgT m mb nm num X) e := by
  intro e he
  obtain ⟨i, hi, he2⟩ := List.mem_flatMap.1 he
  clear he
  have hi := List.mem_range.1 hi
  have hv : (m.p i).t.eq (mb.p i).t = !Nat.beq i k := by
    cases hb : Nat.beq i k with
    | true =>
      have e := Nat.eq_of_beq_eq_true hb
      subst e
      exact h2 (by omega)
    | false =>
      have e := Nat.ne_of_beq_eq_false hb
      exact h1 i (by omega) (by omega)
  revert e he2
  exact app_mem (eq2_ok (den_pt (by omega)) (den_qt (by omega)) hv) (eq2_ok (den_qt (by omega)) (den_pt (by omega)) ((Ty4.eq_comm _ _).trans hv))
end
theorem flat_at {α : Type} {g : Nat → List α} (hg : ∀ i, (g i).length = 8) : ∀ (n : Nat), ((List.range n).flatMap g).length = n * 8 ∧ ∀ j v, ((List.range n).flatMap g)[j]? = some v → j / 8 < n ∧ (g (j / 8))[j % 8]? = some v
  | 0 => ⟨rfl, fun j v h => by simp at h⟩
  | n + 1 => by
    obtain ⟨h1, h2⟩ := flat_at hg n
    rw [List.range_succ, List.flatMap_append, List.flatMap_singleton]
    refine ⟨by rw [List.length_append, h1, hg]; omega, fun j v h => ?_⟩
    rcases Nat.lt_or_ge j (n * 8) with hj | hj
    · rw [List.getElem?_append_left (by omega)] at h
      obtain ⟨h3, h4⟩ := h2 j v h
      exact ⟨by omega, h4⟩
    · rw [List.getElem?_append_right (by omega), h1] at h
      have hl : j - n * 8 < 8 := by
        have := (List.getElem?_eq_some_iff.1 h).1
        rw [hg] at this
        exact this
      have e1 : j / 8 = n := by omega
      have e2 : j % 8 = j - n * 8 := by omega
      rw [e1, e2]
      exact ⟨by omega, h⟩
section
variable {W : World} {va vb : Value} {m : Met W va} {mb : Met W vb} {nm : ByteArray} {num : Nat → Int} {X : List (Nat × Obj)}
theorem srcs_ok (hx : Has m X) (hn : m.len ≤ 5) : ∀ e ∈ srcs m.len, SrcOk (sgT m mb nm num X) e := by
  refine cons_mem ?_ nil_mem
  obtain ⟨hl, hat⟩ := flat_at (g := fun i => [oN (100 + 10 * i), oN (100 + 10 * i + 1), oN (100 + 10 * i + 2), oN (100 + 10 * i + 3), oN (100 + 10 * i + 4), oN (100 + 10 * i + 5), oN (100 + 10 * i + 6), oN (100 + 10 * i + 7)]) (fun _ => rfl) m.len
  have hv : (sgT m mb nm num X).v 4 = .slice m.a m.len m.cap := by
    show val m mb nm 4 = cellAt m.cells 4
    exact valA (by omega)
  refine ⟨hl, fun w => ?_, fun E w hext => ?_⟩
  · show (Builtin.lenOf ((sgT m mb nm num X).v 4)).run Try.prog w = .ok m.len w
    rw [hv]
    rfl
  · show (Builtin.firstCells 8 m.len ((sgT m mb nm num X).v 4)).run Try.prog w = _
    rw [hv]
    by_cases h0 : 0 < m.len
    · obtain ⟨ha, o, ho, hW⟩ := hx h0
      rw [ha]
      have hc : ∀ j v, ((((List.range m.len).flatMap fun i => [oN (100 + 10 * i), oN (100 + 10 * i + 1), oN (100 + 10 * i + 2), oN (100 + 10 * i + 3), oN (100 + 10 * i + 4), oN (100 + 10 * i + 5), oN (100 + 10 * i + 6), oN (100 + 10 * i + 7)])).map (den (sgT m mb nm num X) E))[j]? = some v → w.cell? (m.x.add j) = some v := by
        intro j v hj
        rw [List.getElem?_map] at hj
        cases hq : ((List.range m.len).flatMap fun i => [oN (100 + 10 * i), oN (100 + 10 * i + 1), oN (100 + 10 * i + 2), oN (100 + 10 * i + 3), oN (100 + 10 * i + 4), oN (100 + 10 * i + 5), oN (100 + 10 * i + 6), oN (100 + 10 * i + 7)])[j]? with
        | none => rw [hq] at hj; cases hj
        | some u =>
          rw [hq] at hj
          obtain ⟨h1, h2⟩ := hat j u hq
          have hm : j % 8 < 8 := Nat.mod_lt _ (by omega)
          have hu : u = oN (100 + 10 * (j / 8) + j % 8) := by
            generalize hjm : j % 8 = c at *
            match c, hm with
            | 0, _ => cases h2; rfl
            | 1, _ => cases h2; rfl
            | 2, _ => cases h2; rfl
            | 3, _ => cases h2; rfl
            | 4, _ => cases h2; rfl
            | 5, _ => cases h2; rfl
            | 6, _ => cases h2; rfl
            | 7, _ => cases h2; rfl
            | c + 8, h => omega
          simp only [Option.map_some, Option.some.injEq] at hj
          subst hj
          rw [hu, den_o, valP (by omega) (by omega)]
          have hlt : j % 8 < (m.p (j / 8)).cells.length := by rw [var_len]; exact hm
          have h3 : (m.p (j / 8)).cells[j % 8]? = some (cellAt (m.p (j / 8)).cells (j % 8)) := by
            unfold cellAt
            rw [List.getD_eq_getElem?_getD, List.getElem?_eq_getElem hlt]
            rfl
          have h4 := m.row m.x ha (j / 8) h1 (j % 8) _ h3
          rw [show 8 * (j / 8) + j % 8 = j by omega] at h4
          rw [← h4]
          unfold World.cell?
          rw [block_add, hW, hext _ ho]
      have hr := run_loadCells_list (P := Try.prog) w m.x _ hc
      rw [List.length_map, hl] at hr
      exact hr
    · have e0 : m.len = 0 := by omega
      rw [e0]
      have ha : m.a = none ∨ ∃ x, m.a = some x := by cases m.a <;> simp
      rcases ha with ha | ⟨x, ha⟩
      · rw [ha]; rfl
      · rw [ha]; rfl
end
theorem runF : ∀ la, la ≤ 5 → ∀ lb, lb ≤ 5 → runQ la lb false [] = true
  | 0, _, 0, _ => run_0_0_f
  | 0, _, 1, _ => run_0_1_f
  | 0, _, 2, _ => run_0_2_f
  | 0, _, 3, _ => run_0_3_f
  | 0, _, 4, _ => run_0_4_f
  | 0, _, 5, _ => run_0_5_f
  | 0, _, lb + 6, h => absurd h (by omega)
  | 1, _, 0, _ => run_1_0_f
  | 1, _, 1, _ => run_1_1_f
  | 1, _, 2, _ => run_1_2_f
  | 1, _, 3, _ => run_1_3_f
  | 1, _, 4, _ => run_1_4_f
  | 1, _, 5, _ => run_1_5_f
  | 1, _, lb + 6, h => absurd h (by omega)
  | 2, _, 0, _ => run_2_0_f
  | 2, _, 1, _ => run_2_1_f
  | 2, _, 2, _ => run_2_2_f
  | 2, _, 3, _ => run_2_3_f
  | 2, _, 4, _ => run_2_4_f
  | 2, _, 5, _ => run_2_5_f
  | 2, _, lb + 6, h => absurd h (by omega)
  | 3, _, 0, _ => run_3_0_f
  | 3, _, 1, _ => run_3_1_f
  | 3, _, 2, _ => run_3_2_f
  | 3, _, 3, _ => run_3_3_f
  | 3, _, 4, _ => run_3_4_f
  | 3, _, 5, _ => run_3_5_f
  | 3, _, lb + 6, h => absurd h (by omega)
  | 4, _, 0, _ => run_4_0_f
  | 4, _, 1, _ => run_4_1_f
  | 4, _, 2, _ => run_4_2_f
  | 4, _, 3, _ => run_4_3_f
  | 4, _, 4, _ => run_4_4_f
  | 4, _, 5, _ => run_4_5_f
  | 4, _, lb + 6, h => absurd h (by omega)
  | 5, _, 0, _ => run_5_0_f
  | 5, _, 1, _ => run_5_1_f
  | 5, _, 2, _ => run_5_2_f
  | 5, _, 3, _ => run_5_3_f
  | 5, _, 4, _ => run_5_4_f
  | 5, _, 5, _ => run_5_5_f
  | 5, _, lb + 6, h => absurd h (by omega)
  | la + 6, h, _, _ => absurd h (by omega)
theorem runT : ∀ la, la ≤ 5 → ∀ lb, lb ≤ 5 → la ≠ lb → runQ la lb true [] = true
  | 0, _, 0, _, h => absurd rfl h
  | 0, _, 1, _, _ => run_0_1_t
  | 0, _, 2, _, _ => run_0_2_t
  | 0, _, 3, _, _ => run_0_3_t
  | 0, _, 4, _, _ => run_0_4_t
  | 0, _, 5, _, _ => run_0_5_t
  | 0, _, lb + 6, h, _ => absurd h (by omega)
  | 1, _, 0, _, _ => run_1_0_t
  | 1, _, 1, _, h => absurd rfl h
  | 1, _, 2, _, _ => run_1_2_t
  | 1, _, 3, _, _ => run_1_3_t
  | 1, _, 4, _, _ => run_1_4_t
  | 1, _, 5, _, _ => run_1_5_t
  | 1, _, lb + 6, h, _ => absurd h (by omega)
  | 2, _, 0, _, _ => run_2_0_t
  | 2, _, 1, _, _ => run_2_1_t
  | 2, _, 2, _, h => absurd rfl h
  | 2, _, 3, _, _ => run_2_3_t
  | 2, _, 4, _, _ => run_2_4_t
  | 2, _, 5, _, _ => run_2_5_t
  | 2, _, lb + 6, h, _ => absurd h (by omega)
  | 3, _, 0, _, _ => run_3_0_t
  | 3, _, 1, _, _ => run_3_1_t
  | 3, _, 2, _, _ => run_3_2_t
  | 3, _, 3, _, h => absurd rfl h
  | 3, _, 4, _, _ => run_3_4_t
  | 3, _, 5, _, _ => run_3_5_t
  | 3, _, lb + 6, h, _ => absurd h (by omega)
  | 4, _, 0, _, _ => run_4_0_t
  | 4, _, 1, _, _ => run_4_1_t
  | 4, _, 2, _, _ => run_4_2_t
  | 4, _, 3, _, _ => run_4_3_t
  | 4, _, 4, _, h => absurd rfl h
  | 4, _, 5, _, _ => run_4_5_t
  | 4, _, lb + 6, h, _ => absurd h (by omega)
  | 5, _, 0, _, _ => run_5_0_t
  | 5, _, 1, _, _ => run_5_1_t
  | 5, _, 2, _, _ => run_5_2_t
  | 5, _, 3, _, _ => run_5_3_t
  | 5, _, 4, _, _ => run_5_4_t
  | 5, _, 5, _, h => absurd rfl h
  | 5, _, lb + 6, h, _ => absurd h (by omega)
  | la + 6, h, _, _, _ => absurd h (by omega)
theorem runE : ∀ la, la ≤ 5 → ∀ k, k ≤ la → runQ la la true (eqs la k) = true
  | 0, _, 0, _ => run_0_0_t0
  | 0, _, k + 1, h => absurd h (by omega)
  | 1, _, 0, _ => run_1_1_t0
  | 1, _, 1, _ => run_1_1_t1
  | 1, _, k + 2, h => absurd h (by omega)
  | 2, _, 0, _ => run_2_2_t0
  | 2, _, 1, _ => run_2_2_t1
  | 2, _, 2, _ => run_2_2_t2
  | 2, _, k + 3, h => absurd h (by omega)
  | 3, _, 0, _ => run_3_3_t0
  | 3, _, 1, _ => run_3_3_t1
  | 3, _, 2, _ => run_3_3_t2
  | 3, _, 3, _ => run_3_3_t3
  | 3, _, k + 4, h => absurd h (by omega)
  | 4, _, 0, _ => run_4_4_t0
  | 4, _, 1, _ => run_4_4_t1
  | 4, _, 2, _ => run_4_4_t2
  | 4, _, 3, _ => run_4_4_t3
  | 4, _, 4, _ => run_4_4_t4
  | 4, _, k + 5, h => absurd h (by omega)
  | 5, _, 0, _ => run_5_5_t0
  | 5, _, 1, _ => run_5_5_t1
  | 5, _, 2, _ => run_5_5_t2
  | 5, _, 3, _ => run_5_5_t3
  | 5, _, 4, _ => run_5_5_t4
  | 5, _, 5, _ => run_5_5_t5
  | 5, _, k + 6, h => absurd h (by omega)
  | la + 6, h, _, _ => absurd h (by omega)
theorem first_diff (P : Nat → Bool) : ∀ n, ∃ k, k ≤ n ∧ (∀ i, i < k → P i = true) ∧ (k < n → P k = false)
  | 0 => ⟨0, Nat.le_refl _, fun i h => absurd h (Nat.not_lt_zero _), fun h => absurd h (Nat.lt_irrefl _)⟩
  | n + 1 => by
    obtain ⟨k, h1, h2, h3⟩ := first_diff P n
    by_cases hk : k < n
    · exact ⟨k, by omega, h2, fun _ => h3 hk⟩
    · obtain rfl : k = n := by omega
      cases hp : P k with
      | false => exact ⟨k, by omega, h2, fun _ => hp⟩
      | true =>
        refine ⟨k + 1, Nat.le_refl _, fun i hi => ?_, fun h => absurd h (Nat.lt_irrefl _)⟩
        by_cases e : i = k
        · rw [e]; exact hp
        · exact h2 i (by omega)
theorem args_ok : [metO 0, metO 20, oN 40].all (okV deep 1) = true := by decide
section
variable {W : World} {va vb : Value} {m : Met W va} {mb : Met W vb} {nm : ByteArray} {num : Nat → Int} {X : List (Nat × Obj)}
theorem args_eq3 : ([metO 0, metO 20, oN 40].map (den (sgT m mb nm num X) E00)).toArray = #[va, vb, .string nm] := by
  simp only [List.map_cons, List.map_nil, den_metA, den_metB, den_n]
theorem main (hX : ∀ p ∈ X, W.heap[p.1]? = some p.2) (hA : Has m X) (hB : Has mb X) (h5 : m.len ≤ 5) (h6 : mb.len ≤ 5) (hN : num 1 = nm.size) (h60 : nm.size ≤ 60) {es : List Xo} (hes : ∀ e ∈ es, ExtOk (sgT m mb nm num X) e)
    (hr : runQ m.len mb.len (m.t.eq mb.t) es = true) : Calls Try.prog 3 #[va, vb, .string nm] W fun e w' => e = .returned (.bool true) ∧ Below W.heap.size W w' := by
  have d1 : Den (sgT m mb nm num X) (xN 1) (num 1) := den_x 1
  have h := calls_isS (tab_ok (σ := sgT m mb nm num X) (cons_mem (orc_gtr d1 (den_i 60) (by rw [hN]; simp; omega)) nil_mem) nil_mem (cons_mem awakeC_ok nil_mem)
    (app_mem (cons_mem (ext_len den_a4 (den_i _) rfl) (cons_mem (ext_len den_b4 (den_i _) rfl) (cons_mem (ext_slen den_n d1 hN) nil_mem)))
      (app_mem nots_ok (app_mem (rowA_ok hA h5) (app_mem (rowB_ok hB h6) (app_mem (eq2_ok den_at den_bt rfl) (app_mem (eq2_ok den_bt den_at (Ty4.eq_comm _ _)) (app_mem (eq2_ok den_at den_at (Ty4.eq_self _)) (app_mem hes (self_ok h5)))))))))
    (srcs_ok hA h5)) hr args_ok rfl W hX
  rw [args_eq3, den_bool] at h
  exact h
end
theorem walk (W : World) (va vb : Value) (m : Met W va) (mb : Met W vb) (nm : ByteArray) :
    Calls Try.prog 3 #[va, vb, .string nm] W fun e w' => e = .returned (.bool true) ∧ Below W.heap.size W w' := by
  obtain ⟨num, hnum⟩ : ∃ num : Nat → Int, num = fun j => match j with | 1 => (m.len : Int) | 2 => mb.len | _ => nm.size := ⟨_, rfl⟩
  have d1 : Den (sgT m mb nm num []) (xN 1) m.len := by have := den_x (σ := sgT m mb nm num []) 1; rw [show (sgT m mb nm num []).n 1 = m.len from congrFun hnum 1] at this; exact this
  have d2 : Den (sgT m mb nm num []) (xN 2) mb.len := by have := den_x (σ := sgT m mb nm num []) 2; rw [show (sgT m mb nm num []).n 2 = mb.len from congrFun hnum 2] at this; exact this
  have d3 : Den (sgT m mb nm num []) (xN 3) nm.size := by have := den_x (σ := sgT m mb nm num []) 3; rw [show (sgT m mb nm num []).n 3 = nm.size from congrFun hnum 3] at this; exact this
  by_cases h5 : m.len ≤ 5
  · by_cases h6 : mb.len ≤ 5
    · by_cases h60 : nm.size ≤ 60
      · obtain ⟨X1, hX1, hA⟩ := has_of m
        obtain ⟨X2, hX2, hB⟩ := has_of mb
        have hX : ∀ p ∈ X1 ++ X2, W.heap[p.1]? = some p.2 := app_mem hX1 hX2
        have hA' : Has m (X1 ++ X2) := fun h => by obtain ⟨a, o, b, c⟩ := hA h; exact ⟨a, o, List.mem_append_left _ b, c⟩
        have hB' : Has mb (X1 ++ X2) := fun h => by obtain ⟨a, o, b, c⟩ := hB h; exact ⟨a, o, List.mem_append_right _ b, c⟩
        cases hr : m.t.eq mb.t with
        | false => exact main (num := fun _ => nm.size) hX hA' hB' h5 h6 rfl h60 nil_mem (by rw [hr]; exact runF _ h5 _ h6)
        | true =>
          by_cases hl : m.len = mb.len
          · obtain ⟨k, k1, k2, k3⟩ := first_diff (fun i => (m.p i).t.eq (mb.p i).t) m.len
            refine main (num := fun _ => nm.size) hX hA' hB' h5 h6 rfl h60 (es := eqs m.len k) (eqs_ok h5 (fun i hi _ => k2 i hi) k3) ?_
            rw [hr, ← hl]
            exact runE _ h5 k k1
          · exact main (num := fun _ => nm.size) hX hA' hB' h5 h6 rfl h60 nil_mem (by rw [hr]; exact runT _ h5 _ h6 hl)
      · have h := calls_isS (tab_ok (σ := sgT m mb nm num []) (cons_mem (orc_gtr d1 (den_i 5) (by simp; omega)) (cons_mem (orc_gtr d2 (den_i 5) (by simp; omega)) (cons_mem (orc_gtr d3 (den_i 60) (by simp; omega)) nil_mem))) nil_mem (cons_mem awakeC_ok nil_mem)
          (cons_mem (ext_len den_a4 d1 rfl) (cons_mem (ext_len den_b4 d2 rfl) (cons_mem (ext_slen den_n d3 rfl) nil_mem))) nil_mem) runC_ok args_ok rfl W nil_mem
        rw [args_eq3, den_bool] at h
        exact h
    · have h := calls_isS (tab_ok (σ := sgT m mb nm num []) (cons_mem (orc_gtr d1 (den_i 5) (by simp; omega)) (cons_mem (orc_gtr d2 (den_i 5) (by simp; omega)) nil_mem)) nil_mem (cons_mem awakeC_ok nil_mem)
        (cons_mem (ext_len den_a4 d1 rfl) (cons_mem (ext_len den_b4 d2 rfl) nil_mem)) nil_mem) runB_ok args_ok rfl W nil_mem
      rw [args_eq3, den_bool] at h
      exact h
  · have h := calls_isS (tab_ok (σ := sgT m mb nm num []) (cons_mem (orc_gtr d1 (den_i 5) (by simp; omega)) nil_mem) nil_mem (cons_mem awakeC_ok nil_mem)
      (cons_mem (ext_len den_a4 d1 rfl) nil_mem) nil_mem) runA_ok args_ok rfl W nil_mem
    rw [args_eq3, den_bool] at h
    exact h
end Go.Proofs.Ythfefeekfidfoaa
