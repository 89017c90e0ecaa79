/-
  Runs of closed code: operations that write (2): entries of maps, append.
-/
import Derived.Test.YtnjfbcoddbeggaaSx9
namespace Go.Proofs.Ytnjfbcoddbeggaa.Sx
open Go
variable {σ : Sg}

section
variable {P : Program} {tb : Tab} {E : Env} {H : Hp} {w : World}

noncomputable def mapEntE (tb : Tab) (H : Hp) (t : TypeId) (m k : Value) : Option (Value × Hp) := match m, tb.ty.get t with
  | .map (some r), some y => (match y.desc, H.get r with
    | .map kt et, some (.map es cl) => bif chkE tb kt k && okV deep H.nx k then
        (match findE tb kt k es 0 with
        | some (some (i, v)) => (match es[i]? with
          | some e => bif sbE 6 e.key k then (match H.put r (some (.map (es.modify i fun e => { e with key := k }) cl)) with
            | some H' => some (.tuple #[v, .int .i64 (.ofNat e.born)], H')
            | none => none) else none
          | none => none)
        | some none => (match zeroE tb et with
          | some z => (match H.put r (some (.map (es ++ [⟨k, z, cl⟩]) (cl + 1))) with
            | some H' => some (.tuple #[z, .int .i64 (.ofNat cl)], H')
            | none => none)
          | none => none)
        | none => none) else none
    | _, _ => none)
  | _, _ => none
theorem mapEnt_sound (htb : tb.Ok σ P) (h : Rel σ E H w) {t : TypeId} {m k v : Value} {H' : Hp} (he : mapEntE tb H t m k = some (v, H')) :
    ∃ w', (Instr.mapEntry t (den σ E m) (den σ E k)).run P w = .ok (den σ E v) w' ∧ Rel σ E H' w' ∧ Fr E H w E H' w' := by
  unfold mapEntE at he
  split at he
  · rename_i r y hy
    split at he
    · rename_i kt et es cl hd hg
      cases hc : (chkE tb kt k && okV deep H.nx k) with
      | false => rw [hc] at he; cases he
      | true =>
        rw [hc] at he
        simp only [Bool.and_eq_true] at hc
        obtain ⟨c1, c2⟩ := hc
        dsimp only [cond_true] at he
        have hu := htb.under hy w
        rw [hd] at hu
        obtain ⟨yk, hyk⟩ := chk_has c1
        have hb : w.heap[E.blk r]? = some (.map (es.map (denE σ E)).toArray cl) := h.blk r _ hg
        have hok := List.all_eq_true.1 (h.ok r _ hg)
        have hck := chk_sound (P := P) (E := E) (w := w) (e := false) htb c1
        cases hf : findE tb kt k es 0 with
        | none => rw [hf] at he; cases he
        | some q =>
          rw [hf] at he
          have hfs := find_sound (P := P) (E := E) (w := w) htb hyk hf
          cases q with
          | none =>
            dsimp only at he
            cases hz : zeroE tb et with
            | none => rw [hz] at he; cases he
            | some z =>
              rw [hz] at he
              dsimp only at he
              obtain ⟨z1, z2, z3⟩ := zero_sound htb hz E w
              cases hp : H.put r (some (.map (es ++ [⟨k, z, cl⟩]) (cl + 1))) with
              | none => rw [hp] at he; cases he
              | some H1 =>
                rw [hp] at he
                cases he
                have ht := turn_map h hg hp (by
                  refine List.all_eq_true.2 fun x hx => ?_
                  rcases List.mem_append.1 hx with hx | hx
                  · exact hok x hx
                  · cases List.mem_singleton.1 hx; simp [okE, c2, okV_mono (Nat.zero_le _) deep _ z3])
                refine ⟨_, ?_, ht⟩
                simp only [Instr.mapEntry, Sem.run_bind, hu, Result.andThen_ok, den_map, run_getMap hb, hck, hfs, denR, z1, run_setMap hb, Sem.run_pure]
                congr 1
                · simp [den_tuple, den_int, z2, goInt]
                · congr 2
                  simp [denE, z2]
          | some iv =>
            obtain ⟨i, u⟩ := iv
            dsimp only at he
            cases hi : es[i]? with
            | none => rw [hi] at he; cases he
            | some e =>
              rw [hi] at he
              dsimp only at he
              cases hs : sbE 6 e.key k with
              | false => rw [hs] at he; cases he
              | true =>
                rw [hs] at he
                dsimp only [cond_true] at he
                have hsb := sbE_sound (σ := σ) (E := E) 6 _ _ hs 10000 (by decide)
                cases hp : H.put r (some (.map (es.modify i fun e => { e with key := k }) cl)) with
                | none => rw [hp] at he; cases he
                | some H1 =>
                  rw [hp] at he
                  cases he
                  have ht := turn_map h hg hp (by
                    refine List.all_eq_true.2 fun x hx => ?_
                    rw [List.mem_iff_getElem?] at hx
                    obtain ⟨j, hj⟩ := hx
                    rw [List.getElem?_modify] at hj
                    cases hq : es[j]? with
                    | none => rw [hq] at hj; cases hj
                    | some e' =>
                      rw [hq] at hj
                      have := hok e' (List.mem_of_getElem? hq)
                      simp only [okE, Bool.and_eq_true] at this
                      split at hj
                      · cases hj; simp [okE, c2, this]
                      · cases hj; simp [okE, this])
                  refine ⟨_, ?_, ht⟩
                  have hgk : (((es.map (denE σ E)).toArray[i]?).map (·.key)).getD (den σ E k) = den σ E e.key := by
                    simp [hi, denE]
                  have hgb : (((es.map (denE σ E)).toArray[i]?).map (·.born)).getD 0 = e.born := by
                    simp [hi, denE]
                  simp only [Instr.mapEntry, Sem.run_bind, hu, Result.andThen_ok, den_map, run_getMap hb, hck, hfs, denR, hgk, Instr.keyThatStays, hsb, if_true, Sem.run_pure, run_setMap hb]
                  congr 1
                  · simp [den_tuple, den_int, goInt, hi, denE]
                  · congr 2
                    refine congrArg (fun q => Obj.map q cl) ?_
                    apply Array.ext'
                    apply List.ext_getElem?
                    intro j
                    simp only [Array.toList_modify, List.getElem?_modify, List.getElem?_map]
                    cases es[j]? with
                    | none => rfl
                    | some e' => by_cases hij : i = j <;> simp [hij, denE]
    · cases he
  · cases he

noncomputable def bornIs (n : Nat) (e : MapEntry) : Bool := Nat.beq e.born n
noncomputable def entryStoreE (H : Hp) (m s v : Value) : Option Hp := match m, s with
  | .map (some r), .int _ (.ofNat n) => (match H.get r with
    | some (.map es cl) => (match es.findIdx? (bornIs n) with
      | some i => bif okV deep H.nx v then H.put r (some (.map (es.modify i fun e => { e with val := v }) cl)) else none
      | none => none)
    | _ => none)
  | _, _ => none
theorem entryStore_sound (h : Rel σ E H w) {t : TypeId} {m s v : Value} {H' : Hp} (he : entryStoreE H m s v = some H') :
    ∃ w', (Instr.entryStore t (den σ E m) (den σ E s) (den σ E v)).run P w = .ok () w' ∧ Rel σ E H' w' ∧ Fr E H w E H' w' := by
  unfold entryStoreE at he
  split at he
  · rename_i r k n
    split at he
    · rename_i es cl hg
      cases hf : es.findIdx? (bornIs n) with
      | none => rw [hf] at he; cases he
      | some i =>
        rw [hf] at he
        dsimp only at he
        cases hc : okV deep H.nx v with
        | false => rw [hc] at he; cases he
        | true =>
          rw [hc] at he
          dsimp only [cond_true] at he
          have hb : w.heap[E.blk r]? = some (.map (es.map (denE σ E)).toArray cl) := h.blk r _ hg
          have hok := List.all_eq_true.1 (h.ok r _ hg)
          have ht := turn_map h hg he (by
            refine List.all_eq_true.2 fun x hx => ?_
            rw [List.mem_iff_getElem?] at hx
            obtain ⟨j, hj⟩ := hx
            rw [List.getElem?_modify] at hj
            cases hq : es[j]? with
            | none => rw [hq] at hj; cases hj
            | some e' =>
              rw [hq] at hj
              have := hok e' (List.mem_of_getElem? hq)
              simp only [okE, Bool.and_eq_true] at this
              split at hj
              · cases hj; simp [okE, hc, this]
              · cases hj; simp [okE, this])
          refine ⟨_, ?_, ht⟩
          have hfi : (es.map (denE σ E)).toArray.findIdx? (fun e => (e.born : Int) == (n : Int)) = some i := by
            rw [List.findIdx?_toArray, List.findIdx?_map]
            rw [← hf]
            congr 1
            funext e
            show ((e.born : Int) == (n : Int)) = Nat.beq e.born n
            cases hb : Nat.beq e.born n with
            | true => rw [Nat.eq_of_beq_eq_true hb]; simp
            | false =>
              have := Nat.ne_of_beq_eq_false hb
              rw [beq_eq_false_iff_ne]
              omega
          simp only [Instr.entryStore, Sem.run_bind, den_map, den_int, Result.andThen_ok, run_getMap hb, asInt, asIntOf, Sem.run_pure, Int.ofNat_eq_natCast, hfi, run_setMap hb]
          congr 3
          refine congrArg (fun q => Obj.map q cl) ?_
          apply Array.ext'
          apply List.ext_getElem?
          intro j
          simp only [Array.toList_modify, List.getElem?_modify, List.getElem?_map]
          cases es[j]? with
          | none => rfl
          | some e' => by_cases hij : i = j <;> simp [hij, denE]
    · cases he
  · cases he

/-! ### a map gone through, where nothing is open -/
noncomputable def rngE (tb : Tab) (H : Hp) (t : TypeId) (x : Value) : Option (Value × Hp) := match x, tb.ty.get t with
  | .map (some r), some y => (match y.desc, H.get r with
    | .map _ _, some (.map _ cl) => bif Nat.blt r H.nx then (match H.add (.iter (some r) cl [] cl) with
      | some H' => some (.pointer (some ⟨H.nx, 0, none⟩), H')
      | none => none) else none
    | _, _ => none)
  | .map none, some y => (match y.desc with
    | .map _ _ => (match H.add (.iter none 0 [] 0) with
      | some H' => some (.pointer (some ⟨H.nx, 0, none⟩), H')
      | none => none)
    | _ => none)
  | _, _ => none
theorem rng_sound (htb : tb.Ok σ P) (h : Rel σ E H w) {t : TypeId} {x v : Value} {H' : Hp} (he : rngE tb H t x = some (v, H')) :
    ∃ E' w', (Instr.range t (den σ E x)).run P w = .ok (den σ E' v) w' ∧ Rel σ E' H' w' ∧ Fr E H w E' H' w' := by
  unfold rngE at he
  split at he
  · rename_i r y hy
    split at he
    · rename_i kt et es cl hd hg
      cases hc : Nat.blt r H.nx with
      | false => rw [hc] at he; cases he
      | true =>
        rw [hc] at he
        have hlt : r < H.nx := by rw [Nat.blt_eq] at hc; exact hc
        dsimp only [cond_true] at he
        cases ha : H.add (.iter (some r) cl [] cl) with
        | none => rw [ha] at he; cases he
        | some H1 =>
          rw [ha] at he
          cases he
          have hu := htb.under hy w
          rw [hd] at hu
          have hb : w.heap[E.blk r]? = some (.map (es.map (denE σ E)).toArray cl) := h.blk r _ hg
          have hx := Env.upd_ext E H.nx w.heap.size 0
          obtain ⟨q1, q2⟩ := h.fresh 0 ha (o := .iter (some r) cl [] cl) (by show Nat.blt r H.nx = true; exact hc) (r := .mapIter (some (E.blk r)) cl #[] cl) (by
            show _ = _
            simp [(hx r hlt).1])
          refine ⟨_, _, ?_, q1, q2⟩
          simp only [Instr.range, Sem.run_bind, hu, Result.andThen_ok, den_map, run_getMap hb, Sem.run_pure, run_newObj, den_pointer, Env.upd_blk]
    · cases he
  · rename_i y hy
    split at he
    · rename_i kt et hd
      cases ha : H.add (.iter none 0 [] 0) with
      | none => rw [ha] at he; cases he
      | some H1 =>
        rw [ha] at he
        cases he
        have hu := htb.under hy w
        rw [hd] at hu
        obtain ⟨q1, q2⟩ := h.fresh 0 ha (o := .iter none 0 [] 0) rfl (r := .mapIter none 0 #[] 0) rfl
        refine ⟨_, _, ?_, q1, q2⟩
        simp only [Instr.range, Sem.run_bind, hu, Result.andThen_ok, den_mnil, Sem.run_pure, run_newObj, den_pointer, Env.upd_blk]
    · cases he
  · cases he

noncomputable def leftE (seen : List Nat) (es : List MapEntry) : List MapEntry := es.filter fun e => !seen.contains e.born
noncomputable def nextE (H : Hp) (it : Value) : Option (Value × Hp) := match it with
  | .pointer (some ⟨r, 0, none⟩) => (match H.get r with
    | some (.iter none _ _ _) => some (.tuple #[.bool false], H)
    | some (.iter (some m) since seen last) => (match H.get m with
      | some (.map es cl) => bif !seen.isEmpty && (!es.isEmpty && es.all fun e => Nat.ble last e.born) then none else
          (match leftE seen es with
          | [] => some (.tuple #[.bool false], H)
          | [e] => bif Nat.blt e.born since then (match H.put r (some (.iter (some m) since (seen ++ [e.born]) cl)) with
            | some H' => some (.tuple #[.bool true, e.key, e.val], H')
            | none => none) else none
          | _ => none)
      | _ => none)
    | _ => none)
  | _ => none

theorem next_sound (h : Rel σ E H w) {it v : Value} {ty : TypeId} {H' : Hp} (he : nextE H it = some (v, H')) :
    ∃ w', (Instr.next (den σ E it) false ty).run P w = .ok (den σ E v) w' ∧ Rel σ E H' w' ∧ Fr E H w E H' w' := by
  unfold nextE at he
  split at he
  · rename_i r
    rw [den_pointer]
    split at he
    · rename_i since seen last hg
      cases he
      have hb : w.heap[E.blk r]? = some (.mapIter none since seen.toArray last) := h.blk r _ hg
      refine ⟨w, ?_, h, Fr.refl _ _ _⟩
      simp [Instr.next, getObj, Sem.run, hb, den_tuple, den_bool]
    · rename_i m since seen last hg
      have hb : w.heap[E.blk r]? = some (.mapIter (some (E.blk m)) since seen.toArray last) := h.blk r _ hg
      split at he
      · rename_i es cl hm
        have hbm : w.heap[E.blk m]? = some (.map (es.map (denE σ E)).toArray cl) := h.blk m _ hm
        cases hc : (!seen.isEmpty && (!es.isEmpty && es.all fun e => Nat.ble last e.born)) with
        | true => rw [hc] at he; cases he
        | false =>
          rw [hc] at he
          dsimp only [cond_false] at he
          have hgm : (getObj (E.blk m)).run P w = .ok (.map (es.map (denE σ E)).toArray cl) w := run_getMap hbm
          have hgr : (getObj (E.blk r)).run P w = .ok (.mapIter (some (E.blk m)) since seen.toArray last) w := by simp [getObj, Sem.run, hb]
          have hcond : (!(seen.toArray).isEmpty && !((es.map (denE σ E)).toArray).isEmpty && ((es.map (denE σ E)).toArray).all (fun e => decide (e.born ≥ last))) = false := by
            rw [← hc]
            have e1 : ((es.map (denE σ E)).toArray).all (fun e => decide (e.born ≥ last)) = es.all (fun e => Nat.ble last e.born) := by
              rw [List.all_toArray, List.all_map]
              congr 1
              funext e
              show decide (e.born ≥ last) = Nat.ble last e.born
              cases hbl : Nat.ble last e.born with
              | true => simpa using Nat.le_of_ble_eq_true hbl
              | false =>
                have : ¬ last ≤ e.born := fun hh => by rw [← Nat.ble_eq] at hh; rw [hh] at hbl; cases hbl
                simpa using this
            rw [e1, Bool.and_assoc]
            simp
          have hleft : ((es.map (denE σ E)).toArray).filter (fun e => !(seen.toArray).contains e.born) = ((leftE seen es).map (denE σ E)).toArray := by
            unfold leftE
            apply Array.ext'
            rw [Array.toList_filter]
            simp only [List.filter_map]
            congr 1
            refine List.filter_congr fun e _ => ?_
            show (!(seen.toArray).contains e.born) = !seen.contains e.born
            rw [List.contains_toArray]
          cases hl : leftE seen es with
          | nil =>
            rw [hl] at he hleft
            cases he
            refine ⟨w, ?_, h, Fr.refl _ _ _⟩
            have hq : (choose (.mapNext 1)).run P w = .ok 0 w := by rw [run_choose]; rfl
            simp only [Instr.next, Sem.run_bind, hgr, Result.andThen_ok, hgm, hcond, Bool.false_eq_true, if_false, hleft]
            simp [hq, den_tuple, den_bool]
          | cons e l =>
            cases l with
            | cons e2 l => rw [hl] at he; cases he
            | nil =>
              rw [hl] at he hleft
              dsimp only at he
              cases hs : Nat.blt e.born since with
              | false => rw [hs] at he; cases he
              | true =>
                rw [hs] at he
                have hs : e.born < since := by rw [Nat.blt_eq] at hs; exact hs
                dsimp only [cond_true] at he
                cases hp : H.put r (some (.iter (some m) since (seen ++ [e.born]) cl)) with
                | none => rw [hp] at he; cases he
                | some H1 =>
                  rw [hp] at he
                  cases he
                  have hok := h.ok r _ hg
                  have hlt := h.heap_lt hg
                  have ht := h.turn (w' := { w with heap := w.heap.setIfInBounds (E.blk r) (.mapIter (some (E.blk m)) since (seen ++ [e.born]).toArray cl) }) hg hp (o' := .iter (some m) since (seen ++ [e.born]) cl) hok (r := .mapIter (some (E.blk m)) since (seen ++ [e.born]).toArray cl) rfl rfl rfl rfl (by simp) (by simp [hlt]) (fun g hne => by simp [Array.getElem?_setIfInBounds_ne (Ne.symm hne)])
                  refine ⟨_, ?_, ht⟩
                  have hq : (choose (.mapNext 1)).run P w = .ok 0 w := by rw [run_choose]; rfl
                  have hset : ∀ o, (setObj (E.blk r) o).run P w = .ok () { w with heap := w.heap.setIfInBounds (E.blk r) o } := fun o => by simp [setObj, Sem.run, hb]
                  have hborn : (denE σ E e).born = e.born := rfl
                  simp only [Instr.next, Sem.run_bind, hgr, Result.andThen_ok, hgm, hcond, Bool.false_eq_true, if_false, hleft]
                  simp [hq, den_tuple, den_bool, hborn, hs, Nat.not_le.2 hs, hset]
                  exact ⟨rfl, rfl⟩
      · cases he
    · cases he
  · cases he
noncomputable def entryE (H : Hp) (it : Value) : Option Value := match it with
  | .pointer (some ⟨r, 0, none⟩) => (match H.get r with
    | some (.iter (some m) _ seen stepped) => (match H.get m, seen.reverse with
      | some (.map es cl), stamp :: _ => bif Nat.beq cl stepped then (match es.find? (bornIs stamp) with
        | some e => some (.tuple #[e.key, e.val])
        | none => none) else none
      | _, _ => none)
    | _ => none)
  | _ => none
theorem entry_sound (h : Rel σ E H w) {it v : Value} (he : entryE H it = some v) :
    (Instr.entry (den σ E it)).run P w = .ok (den σ E v) w := by
  unfold entryE at he
  split at he
  · rename_i r
    rw [den_pointer]
    split at he
    · rename_i m since seen stepped hg
      have hb : w.heap[E.blk r]? = some (.mapIter (some (E.blk m)) since seen.toArray stepped) := h.blk r _ hg
      split at he
      · rename_i es cl stamp rest hm hs
        have hbm : w.heap[E.blk m]? = some (.map (es.map (denE σ E)).toArray cl) := h.blk m _ hm
        cases hc : Nat.beq cl stepped with
        | false => rw [hc] at he; cases he
        | true =>
          rw [hc] at he
          dsimp only [cond_true] at he
          have hcl : cl = stepped := Nat.eq_of_beq_eq_true hc
          cases hf : es.find? (bornIs stamp) with
          | none => rw [hf] at he; cases he
          | some e =>
            rw [hf] at he
            cases he
            have hgm : (getObj (E.blk m)).run P w = .ok (.map (es.map (denE σ E)).toArray cl) w := run_getMap hbm
            have hgr : (getObj (E.blk r)).run P w = .ok (.mapIter (some (E.blk m)) since seen.toArray stepped) w := by simp [getObj, Sem.run, hb]
            have hback : seen.toArray.back? = some stamp := by
              have e1 : seen = rest.reverse ++ [stamp] := by
                have := congrArg List.reverse hs
                simpa using this
              rw [e1]
              simp
            have hfind : ((es.map (denE σ E)).toArray).find? (fun e => e.born == stamp) = some (denE σ E e) := by
              rw [List.find?_toArray, List.find?_map]
              have e2 : ((fun e : MapEntry => e.born == stamp) ∘ denE σ E) = bornIs stamp := by
                funext x
                show (x.born == stamp) = Nat.beq x.born stamp
                cases hb2 : Nat.beq x.born stamp with
                | true => simpa using Nat.eq_of_beq_eq_true hb2
                | false => simpa using Nat.ne_of_beq_eq_false hb2
              rw [e2, hf]
              rfl
            simp only [Instr.entry, Sem.run_bind, hgr, Result.andThen_ok, hback, hgm, hcl, bne_self_eq_false, Bool.false_eq_true, if_false, hfind, Sem.run_pure]
            simp [den_tuple, denE]
      · cases he
    · cases he
  · cases he
end
end Go.Proofs.Ytnjfbcoddbeggaa.Sx
