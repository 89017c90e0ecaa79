/-
  Runs of closed code: operations that write.
-/
import Derived.Test.YtnjfbcoddbeggaaSx8
namespace Go.Proofs.Ytnjfbcoddbeggaa.Sx
open Go
variable {σ : Sg}

section
variable {P : Program} {tb : Tab} {E : Env} {H : Hp} {w : World}

/-! ### store -/
noncomputable def putCells (H : Hp) (b off : Nat) (vs : List Value) : Option Hp := match H.get b with
  | some (.cells c fx e) => bif Nat.ble (off + vs.length) c.length && (vs.all Value.one && vs.all (okV deep H.nx)) then H.put b (some (.cells (splice c off vs) fx e)) else none
  | _ => none

theorem splice_length {c vs : List Value} {off : Nat} (h : off + vs.length ≤ c.length) : (splice c off vs).length = c.length := by
  simp [splice]; omega
theorem splice_real {c vs : List Value} {off : Nat} (rest : List Value) (h : off + vs.length ≤ c.length) :
    (c.map (den σ E) ++ rest).take off ++ vs.map (den σ E) ++ (c.map (den σ E) ++ rest).drop (off + (vs.map (den σ E)).length) = (splice c off vs).map (den σ E) ++ rest := by
  have h1 : off ≤ (c.map (den σ E)).length := by simp; omega
  have h2 : off + (vs.map (den σ E)).length ≤ (c.map (den σ E)).length := by simpa using h
  rw [List.take_append_of_le_length h1, List.drop_append_of_le_length h2]
  simp [splice]

theorem putCells_sound (h : Rel σ E H w) {b off : Nat} {vs : List Value} {H' : Hp} (hp : putCells H b off vs = some H') :
    ∃ w', (storeCells ⟨E.blk b, off, none⟩ (vs.map (den σ E))).run P w = .ok () w' ∧ Rel σ E H' w' ∧ Fr E H w E H' w' := by
  unfold putCells at hp
  split at hp
  · rename_i c fx e hg
    cases hc : (Nat.ble (off + vs.length) c.length && (vs.all Value.one && vs.all (okV deep H.nx))) with
    | false => rw [hc] at hp; cases hp
    | true =>
      rw [hc] at hp
      simp only [Bool.and_eq_true, Nat.ble_eq, List.all_eq_true] at hc
      obtain ⟨c1, c2, c3⟩ := hc
      dsimp only [cond_true] at hp
      obtain ⟨rest, hb, hfx⟩ := h.blk b _ hg
      obtain ⟨w', r1, r2, r3, r4, r5, r6, r7⟩ := run_storeCells (P := P) (vs.map (den σ E)) 0 off w _ (by
        intro v hv
        obtain ⟨x, hx, rfl⟩ := List.mem_map.1 hv
        exact one_den (c2 x hx)) hb (by simp; omega)
      refine ⟨w', r1, h.turn hg hp ?_ ?_ r2 r3 r4 r5 r6 r7⟩
      · refine List.all_eq_true.2 fun x hx => ?_
        have hok := List.all_eq_true.1 (h.ok b _ hg)
        simp only [splice, List.mem_append] at hx
        rcases hx with (hx | hx) | hx
        · exact hok x (List.mem_of_mem_take hx)
        · exact c3 x hx
        · exact hok x (List.mem_of_mem_drop hx)
      · refine ⟨rest, ?_, ?_⟩
        · congr 2
          apply Array.ext'
          simp only [Array.toList_append, Nat.add_zero]
          exact splice_real rest.toList c1
        · cases fx with
          | none => exact hfx
          | some esz => simp only [splice_length c1]; exact hfx
  · cases hp

noncomputable def storeE (tb : Tab) (H : Hp) (t : TypeId) (a v : Value) : Option Hp := match a, tb.ty.get t with
  | .pointer (some ⟨b, off, none⟩), some y => bif Nat.beq v.cells.toList.length y.info.size then putCells H b off v.cells.toList else none
  | _, _ => none
theorem store_sound (htb : tb.Ok σ P) (h : Rel σ E H w) {t : TypeId} {a v : Value} {H' : Hp} (he : storeE tb H t a v = some H') :
    ∃ w', (Instr.storeAt t (den σ E a) (den σ E v)).run P w = .ok () w' ∧ Rel σ E H' w' ∧ Fr E H w E H' w' := by
  unfold storeE at he
  split at he
  · rename_i b off y hy
    cases hs : Nat.beq v.cells.toList.length y.info.size with
    | false => rw [hs] at he; cases he
    | true =>
      rw [hs] at he
      have hs := Nat.eq_of_beq_eq_true hs
      obtain ⟨w', r1, r2⟩ := putCells_sound (P := P) h he
      refine ⟨w', ?_, r2⟩
      have hn : ¬ ((den σ E v).cells.size ≠ y.info.size) := by
        rw [den_cells, Array.size_map]
        simpa using hs
      simp only [Instr.storeAt, den_pointer, Instr.sureAddr, Sem.run_bind, Sem.run_pure, Result.andThen_ok, storeVar, htb.size hy, if_neg hn]
      rw [den_cells, Array.toList_map]
      exact r1
  · cases he

/-! ### maps -/
noncomputable def sbE : Nat → Value → Value → Bool
  | 0, _, _ => false
  | n + 1, x, y => match x, y with
    | .bool a, .bool b => bif a then b else !b
    | .int j a, .int k b => kindEq j k && intEqE a b
    | .string a, .string b => bytesEq a b
    | .agg a, .agg b => Nat.beq a.toList.length b.toList.length && (a.toList.zip b.toList).all fun p => sbE n p.1 p.2
    | _, _ => false
theorem sbE_sound : ∀ (n : Nat) (x y : Value), sbE n x y = true → ∀ m, n ≤ m → Instr.sameBits m (den σ E x) (den σ E y) = true := by
  intro n
  induction n with
  | zero => intro x y h; cases h
  | succ n ih =>
    intro x y h m hm
    obtain ⟨m, rfl⟩ : ∃ k, m = k + 1 := ⟨m - 1, by omega⟩
    unfold sbE at h
    split at h
    · rename_i a b
      rw [den_bool, den_bool, Instr.sameBits]
      cases a <;> cases b <;> first | rfl | cases h
    · rename_i j a k b
      simp only [Bool.and_eq_true] at h
      cases kindEq_eq h.1
      rw [den_int, den_int, Instr.sameBits, ← intEqE_eq, h.2]
      simp
    · rw [den_string, den_string, Instr.sameBits, beq_toListBytes, ← bytesEq_eq, h]
    · rename_i a b
      simp only [Bool.and_eq_true, List.all_eq_true] at h
      rw [den_agg, den_agg, Instr.sameBits]
      have hl := Nat.eq_of_beq_eq_true h.1
      simp only [Array.size_map, Array.toList_map, Bool.and_eq_true, List.all_eq_true]
      refine ⟨by simpa using hl, ?_⟩
      intro p hp
      rw [List.zip_map] at hp
      obtain ⟨q, hq, rfl⟩ := List.mem_map.1 hp
      exact ih _ _ (h.2 q hq) m (by omega)
    · cases h

theorem run_setMap {r : Nat} {o : Obj} {es : Array MapEntry} {cl : Nat} (hb : w.heap[r]? = some (.map es cl)) : (setObj r o).run P w = .ok () { w with heap := w.heap.setIfInBounds r o } := by
  simp [setObj, Sem.run, hb]
theorem turn_map (h : Rel σ E H w) {r : Nat} {es es' : List MapEntry} {cl cl' : Nat} {H' : Hp} (hg : H.get r = some (.map es cl)) (hp : H.put r (some (.map es' cl')) = some H') (hok : es'.all (okE H.nx) = true) :
    let w' : World := { w with heap := w.heap.setIfInBounds (E.blk r) (.map (es'.map (denE σ E)).toArray cl') }
    Rel σ E H' w' ∧ Fr E H w E H' w' := by
  have hlt := h.heap_lt hg
  refine h.turn (o' := .map es' cl') hg hp hok rfl rfl rfl rfl (by simp) ?_ ?_
  · simp [hlt]
  · intro g hne
    simp [Array.getElem?_setIfInBounds_ne (Ne.symm hne)]

noncomputable def mapUpdE (tb : Tab) (H : Hp) (t : TypeId) (m k v : Value) : Option Hp := match m, tb.ty.get t with
  | .map (some r), some y => (match y.desc, H.get r with
    | .map kt _, some (.map es cl) => bif chkE tb kt k && (okV deep H.nx k && okV deep H.nx v) then
        (match findE tb kt k es 0 with
        | some (some (i, _)) => (match es[i]? with
          | some e => bif sbE 6 e.key k then H.put r (some (.map (es.modify i fun e => { e with key := k, val := v }) cl)) else none
          | none => none)
        | some none => H.put r (some (.map (es ++ [⟨k, v, cl⟩]) (cl + 1)))
        | none => none) else none
    | _, _ => none)
  | _, _ => none

theorem chk_has {kt : TypeId} {k : Value} (hc : chkE tb kt k = true) : ∃ yk, tb.ty.get kt = some yk := by
  unfold chkE at hc
  cases hk : tb.ty.get kt with
  | none => rw [hk] at hc; cases hc
  | some yk => exact ⟨yk, rfl⟩
theorem mapUpd_sound (htb : tb.Ok σ P) (h : Rel σ E H w) {t : TypeId} {m k v : Value} {H' : Hp} (he : mapUpdE tb H t m k v = some H') :
    ∃ w', (Instr.mapUpdate t (den σ E m) (den σ E k) (den σ E v)).run P w = .ok () w' ∧ Rel σ E H' w' ∧ Fr E H w E H' w' := by
  unfold mapUpdE at he
  split at he
  · rename_i r y hy
    split at he
    · rename_i kt et es cl hd hg
      cases hc : (chkE tb kt k && (okV deep H.nx k && okV deep H.nx v)) with
      | false => rw [hc] at he; cases he
      | true =>
        rw [hc] at he
        simp only [Bool.and_eq_true] at hc
        obtain ⟨c1, c2, c3⟩ := hc
        dsimp only [cond_true] at he
        have hu := htb.under hy w
        rw [hd] at hu
        obtain ⟨yk, hyk⟩ := chk_has c1
        have hb : w.heap[E.blk r]? = some (.map (es.map (denE σ E)).toArray cl) := h.blk r _ hg
        have hok := List.all_eq_true.1 (h.ok r _ hg)
        have hck := chk_sound (P := P) (E := E) (w := w) (e := false) htb c1
        cases hf : findE tb kt k es 0 with
        | none => rw [hf] at he; cases he
        | some q =>
          rw [hf] at he
          have hfs := find_sound (P := P) (E := E) (w := w) htb hyk hf
          cases q with
          | none =>
            dsimp only at he
            have ht := turn_map h hg he (by
              refine List.all_eq_true.2 fun x hx => ?_
              rcases List.mem_append.1 hx with hx | hx
              · exact hok x hx
              · cases List.mem_singleton.1 hx; simp [okE, c2, c3])
            refine ⟨_, ?_, ht⟩
            simp only [Instr.mapUpdate, Sem.run_bind, hu, Result.andThen_ok, den_map, run_getMap hb, hck, hfs, denR, run_setMap hb]
            congr 3
            simp [denE]
          | some iv =>
            obtain ⟨i, u⟩ := iv
            dsimp only at he
            cases hi : es[i]? with
            | none => rw [hi] at he; cases he
            | some e =>
              rw [hi] at he
              dsimp only at he
              cases hs : sbE 6 e.key k with
              | false => rw [hs] at he; cases he
              | true =>
                rw [hs] at he
                dsimp only [cond_true] at he
                have hsb := sbE_sound (σ := σ) (E := E) 6 _ _ hs 10000 (by decide)
                have ht := turn_map h hg he (by
                  refine List.all_eq_true.2 fun x hx => ?_
                  rw [List.mem_iff_getElem?] at hx
                  obtain ⟨j, hj⟩ := hx
                  rw [List.getElem?_modify] at hj
                  cases hq : es[j]? with
                  | none => rw [hq] at hj; cases hj
                  | some e' =>
                    rw [hq] at hj
                    have := hok e' (List.mem_of_getElem? hq)
                    simp only [okE, Bool.and_eq_true] at this
                    split at hj
                    · cases hj; simp [okE, c2, c3]
                    · cases hj; simp [okE, this])
                refine ⟨_, ?_, ht⟩
                have hgk : (((es.map (denE σ E)).toArray[i]?).map (·.key)).getD (den σ E k) = den σ E e.key := by
                  simp [hi, denE]
                simp only [Instr.mapUpdate, Sem.run_bind, hu, Result.andThen_ok, den_map, run_getMap hb, hck, hfs, denR, hgk, Instr.keyThatStays, hsb, if_true, Sem.run_pure, run_setMap hb]
                congr 3
                refine congrArg (fun q => Obj.map q cl) ?_
                apply Array.ext'
                apply List.ext_getElem?
                intro j
                simp only [Array.toList_modify, List.getElem?_modify, List.getElem?_map]
                cases es[j]? with
                | none => rfl
                | some e' => by_cases hij : i = j <;> simp [hij, denE]
    · cases he
  · cases he
end
end Go.Proofs.Ytnjfbcoddbeggaa.Sx
