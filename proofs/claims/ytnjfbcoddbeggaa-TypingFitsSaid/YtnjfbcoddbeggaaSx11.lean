/-
  Runs of closed code: append.
-/
import Derived.Test.YtnjfbcoddbeggaaSx10
namespace Go.Proofs.Ytnjfbcoddbeggaa.Sx
open Go
variable {σ : Sg}

section
variable {P : Program} {tb : Tab} {E : Env} {H : Hp} {w : World}

theorem Rel.kill {H' : Hp} (h : Rel σ E H w) {b : Nat} (hp : H.put b none = some H') : Rel σ E H' w ∧ Fr E H w E H' w := by
  obtain ⟨hn, hg⟩ := Hp.get_put hp
  have hlive : ∀ j o, H'.get j = some o → H.get j = some o := by
    intro j o hj
    rw [hg] at hj
    by_cases e : j = b
    · rw [if_pos e] at hj; cases hj
    · rwa [if_neg e] at hj
  have hsome : ∀ j, (H'.get j).isSome → (H.get j).isSome := by
    intro j hj
    obtain ⟨o, ho⟩ := Option.isSome_iff_exists.1 hj
    rw [hlive j o ho]; rfl
  refine ⟨⟨fun j o hj => h.blk j o (hlive j o hj), fun j k hj hk e => h.inj j k (hsome j hj) (hsome k hk) e, fun j o hj => by rw [hn]; exact h.lt j o (hlive j o hj), fun j o hj => by rw [hn]; exact h.ok j o (hlive j o hj), fun p hp' => ⟨(h.ext p hp').1, fun j hj => (h.ext p hp').2 j (hsome j hj)⟩⟩, ?_⟩
  exact ⟨rfl, rfl, rfl, Nat.le_refl _, fun _ _ _ => rfl, fun j hj => .inl ⟨j, hsome j hj, rfl⟩, Env.Ext.refl _ _, by omega⟩

noncomputable def srcE (H : Hp) (size : Nat) : Value → Option (Nat × List Value)
  | .slice none 0 _ => some (0, [])
  | .slice (some ⟨b, off, none⟩) len _ => (match H.cells b with
    | some c => bif Nat.ble (off + len * size) c.length then some (len, (c.drop off).take (len * size)) else none
    | none => none)
  | .string s => some (s.data.toList.length, s.data.toList.map fun b => .int .u8 (.ofNat b.toNat))
  | _ => none
theorem src_sound (h : Rel σ E H w) {size n : Nat} {x : Value} {l : List Value} (he : srcE H size x = some (n, l)) :
    (∀ w', (Builtin.lenOf (den σ E x)).run P w' = .ok n w') ∧ (Builtin.firstCells size n (den σ E x)).run P w = .ok (l.map (den σ E)).toArray w ∧ ((∃ s, x = .string s) ∨ l.length = n * size) := by
  unfold srcE at he
  split at he
  · cases he
    refine ⟨fun w' => ?_, ?_, .inr (by simp)⟩
    · rw [den_snil]; rfl
    · rw [den_snil]; rfl
  · rename_i b off len cap
    cases hc : H.cells b with
    | none => rw [hc] at he; cases he
    | some c =>
      rw [hc] at he
      dsimp only at he
      cases hl : Nat.ble (off + len * size) c.length with
      | false => rw [hl] at he; cases he
      | true =>
        rw [hl] at he
        have hl := Nat.le_of_ble_eq_true hl
        cases he
        refine ⟨fun w' => ?_, ?_, .inr (by simp; omega)⟩
        · rw [den_slice]; rfl
        · have := run_loadCells (P := P) h hc off (n * size) 0 #[] (by omega)
          rw [den_slice, Builtin.firstCells, loadCells, this]
          simp
  · rename_i s
    cases he
    refine ⟨fun w' => ?_, ?_, .inl ⟨s, rfl⟩⟩
    · rw [den_string]; rfl
    · rw [den_string, Builtin.firstCells, Sem.run_pure]
      congr 1
      apply Array.ext'
      have e : s.extract 0 s.data.toList.length = s := by
        have : s.data.toList.length = s.size := rfl
        rw [this, ByteArray.extract_zero_size]
      rw [e]
      simp [den_int]
  · cases he

theorem grow_bound (n c : Nat) (h : c < n) : Builtin.nextslicecap n c ≤ 16 * n + 4096 := by
  unfold Builtin.nextslicecap
  split
  · omega
  · split
    · omega
    · simp only [Builtin.growBy]
      repeat' split
      all_goals omega

noncomputable def srcL (i size : Nat) : List Sr → Option (Nat × List Value)
  | [] => none
  | e :: es => bif Nat.beq e.i i && Nat.beq e.size size then some (e.n, e.l) else srcL i size es
theorem srcL_mem {i size n : Nat} {l : List Value} : ∀ (s : List Sr), srcL i size s = some (n, l) → (⟨i, size, n, l⟩ : Sr) ∈ s := by
  intro s
  induction s with
  | nil => intro h; cases h
  | cons e es ih =>
    intro h
    simp only [srcL] at h
    cases hc : Nat.beq e.i i && Nat.beq e.size size with
    | true =>
      rw [hc] at h
      simp only [Bool.and_eq_true] at hc
      obtain ⟨ei, es', en, el⟩ := e
      dsimp only at hc h
      cases h
      rw [Nat.eq_of_beq_eq_true hc.1, Nat.eq_of_beq_eq_true hc.2]
      exact List.mem_cons_self
    | false =>
      rw [hc] at h
      exact List.mem_cons_of_mem _ (ih h)
/-- what is put behind: of memory that is known, or of what lies outside -/
noncomputable def srcX (tb : Tab) (H : Hp) (size : Nat) (v : Value) : Option (Nat × List Value) := match v with
  | .float .f32 i => srcL i size tb.src
  | v => srcE H size v
theorem srcX_sound (htb : tb.Ok σ P) (h : Rel σ E H w) {size n : Nat} {x : Value} {l : List Value} (he : srcX tb H size x = some (n, l)) :
    (∀ w', (Builtin.lenOf (den σ E x)).run P w' = .ok n w') ∧ (Builtin.firstCells size n (den σ E x)).run P w = .ok (l.map (den σ E)).toArray w ∧ ((∃ s, x = .string s) ∨ l.length = n * size) := by
  unfold srcX at he
  split at he
  · rename_i i
    obtain ⟨h1, h2, h3⟩ := htb.src _ (srcL_mem _ he)
    rw [den_opq]
    exact ⟨h2, h3 E w fun p hp => (h.ext p hp).1, .inr h1⟩
  · exact src_sound h he
noncomputable def notInt : TypeDesc → Bool
  | .int _ => false
  | _ => true
/-- a new row behind an append -/
noncomputable def growE (H : Hp) (size elem need : Nat) (cells : List Value) : Option (Value × Hp) :=
  bif cells.all (okV deep H.nx) then
    (match H.add (.cells cells (some size) elem) with
    | some H' => some (.slice (some ⟨H.nx, 0, none⟩) need 1, H')
    | none => none) else none
noncomputable def appendE (tb : Tab) (H : Hp) (ts : Array TypeId) (s x : Value) : Option (Value × Hp) :=
  match ts[0]?, ts[1]?, s with
  | some st, some xt, .slice base sLen sCap => (match tb.ty.get st, tb.ty.get xt with
    | some ys, some yx => (match ys.desc with
      | .slice elem => (match tb.ty.get elem, zeroE tb elem with
        | some ye, some z => (match srcX tb H ye.info.size x with
          | some (n, new) => bif notInt yx.desc && (Nat.beq z.cells.toList.length ye.info.size && (Nat.blt 0 ye.info.size && (Nat.ble (sLen + n) 100000 && (Nat.ble ye.info.bytes 10000 && (Nat.beq new.length (n * ye.info.size) && new.all Value.one))))) then
            (match base with
            | none => (match sLen, sCap, n with
              | 0, 0, 0 => some (.slice none 0 0, H)
              | 0, 0, n => growE H ye.info.size elem n new
              | _, _, _ => none)
            | some ⟨b, off, none⟩ => bif Nat.beq (sCap % 2) 0 then
                (bif Nat.ble (sLen + n) (sCap / 2) then (match putCells H b (off + sLen * ye.info.size) new with
                  | some H' => some (.slice (some ⟨b, off, none⟩) (sLen + n) sCap, H')
                  | none => none)
                else (match H.cells b with
                  | some c => bif Nat.ble (off + sLen * ye.info.size) c.length then growE H ye.info.size elem (sLen + n) ((c.drop off).take (sLen * ye.info.size) ++ new) else none
                  | none => none))
              else (match H.get b with
                | some (.cells c (some esz) e) => bif Nat.beq sCap 1 && (Nat.beq off 0 && (Nat.beq esz ye.info.size && (Nat.beq e elem && Nat.ble (sLen * ye.info.size) c.length))) then
                    (bif Nat.ble ((sLen + n) * ye.info.size) c.length then (match putCells H b (off + sLen * ye.info.size) new with
                      | some H' => some (.slice (some ⟨b, off, none⟩) (sLen + n) sCap, H')
                      | none => none)
                    else (match H.put b none with
                      | some H1 => growE H1 ye.info.size elem (sLen + n) (c.take (sLen * ye.info.size) ++ new)
                      | none => none)) else none
                | _ => none)
            | _ => none) else none
          | none => none)
        | _, _ => none)
      | _ => none)
    | _, _ => none)
  | _, _, _ => none

theorem cut_ge (need old elem t : Nat) : need ≤ (Question.appendCap need old elem).cut t := by
  simp only [Question.cut]; omega

/-- the new row of an append that grows -/
theorem grow_new {H' : Hp} (h : Rel σ E H w) {size elem need : Nat} {cells : List Value} {v : Value} (hg : growE H size elem need cells = some (v, H')) (newCap : Nat) {rest : Array Value} (hr : cells.length + rest.size = newCap * size) (d : Nat) :
    let w' : World := { w with drawn := d, heap := w.heap.push (.cells ((cells.map (den σ E)).toArray ++ rest) elem (0, 0)) }
    let E' := E.upd H.nx w.heap.size newCap
    den σ E' v = .slice (some ⟨w.heap.size, 0, none⟩) need newCap ∧ Rel σ E' H' w' ∧ Fr E H w E' H' w' := by
  unfold growE at hg
  cases hc : cells.all (okV deep H.nx) with
  | false => rw [hc] at hg; cases hg
  | true =>
    rw [hc] at hg
    dsimp only [cond_true] at hg
    cases ha : H.add (.cells cells (some size) elem) with
    | none => rw [ha] at hg; cases hg
    | some H1 =>
      rw [ha] at hg
      cases hg
      have hm : cells.map (den σ (E.upd H.nx w.heap.size newCap)) = cells.map (den σ E) := by
        refine List.map_congr_left fun x hx => den_ext (Env.upd_ext E H.nx w.heap.size newCap) deep x ?_
        exact List.all_eq_true.1 hc x hx
      obtain ⟨f1, f2⟩ := h.fresh newCap ha (o := .cells cells (some size) elem) hc (r := .cells ((cells.map (den σ E)).toArray ++ rest) elem (0, 0)) ⟨rest, by rw [hm], by
        show _ = (E.upd H.nx w.heap.size newCap).cap H.nx * size
        rw [Env.upd_cap]; exact hr⟩
      refine ⟨?_, f1.drew d, f2.drew d⟩
      rw [den_slice, Env.upd_blk, capOf, if_neg (by omega), Env.upd_cap]
      rfl

theorem zeroCells_size (zero : Array Value) (n : Nat) : (Builtin.zeroCells zero n).size = n * zero.size := by
  simp [Builtin.zeroCells]

/-- an append that grows, by the model's own text -/
theorem run_grow (htb : tb.Ok σ P) {st xt elem : TypeId} {rt : TypeId} {ts : Array TypeId} {ys yx ye : Ty} {z : Value} {base : Option Addr} {sLen sCap n : Nat} {x : Value} {old new : Array Value}
    (h0 : ts[0]? = some st) (h1 : ts[1]? = some xt) (hys : tb.ty.get st = some ys) (hyx : tb.ty.get xt = some yx) (hd : ys.desc = .slice elem) (hye : tb.ty.get elem = some ye) (hz : zeroE tb elem = some z)
    (hni : notInt yx.desc = true) (hneed : sLen + n ≤ 100000) (hbytes : ye.info.bytes ≤ 10000) (hgt : sCap < sLen + n)
    (hlen : ∀ w', (Builtin.lenOf x).run P w' = .ok n w') (hold : ∀ w' : World, w'.heap = w.heap → (Builtin.firstCells ye.info.size sLen (.slice base sLen sCap)).run P w' = .ok old w') (hnew : ∀ w' : World, w'.heap = w.heap → (Builtin.firstCells ye.info.size n x).run P w' = .ok new w') :
    ∃ (newCap d : Nat), sLen + n ≤ newCap ∧ (Builtin.append_ ts rt #[.slice base sLen sCap, x]).run P w =
      .ok (.slice (some ⟨w.heap.size, 0, none⟩) (sLen + n) newCap) { w with drawn := d, heap := w.heap.push (.cells (old ++ new ++ Builtin.zeroCells z.cells (newCap - (sLen + n))) elem (0, 0)) } := by
  have hus := htb.under hys
  rw [hd] at hus
  have hux := htb.under hyx
  have hdraw : (choose (.appendCap (sLen + n) sCap elem)).run P w = .ok ((Question.appendCap (sLen + n) sCap elem).cut (w.tape w.drawn (.appendCap (sLen + n) sCap elem))) { w with drawn := w.drawn + 1 } := by
    rw [run_choose]; rfl
  obtain ⟨newCap, hnc⟩ : ∃ c, c = (Question.appendCap (sLen + n) sCap elem).cut (w.tape w.drawn (.appendCap (sLen + n) sCap elem)) := ⟨_, rfl⟩
  rw [← hnc] at hdraw
  refine ⟨newCap, w.drawn + 1, by rw [hnc]; exact cut_ge _ _ _ _, ?_⟩
  have hgb := grow_bound (sLen + n) sCap hgt
  have hmax : ¬ ((sLen + n : Nat) : Int) > IntKind.i64.max := by
    have : IntKind.i64.max = 9223372036854775807 := by decide
    rw [this]; omega
  have hbig : ¬ Builtin.nextslicecap (sLen + n) sCap * ye.info.bytes > 2 ^ 48 := by
    have : Builtin.nextslicecap (sLen + n) sCap * ye.info.bytes ≤ 1604096 * 10000 := Nat.mul_le_mul (by omega) hbytes
    have h48 : (2 : Nat) ^ 48 = 281474976710656 := by decide
    omega
  have hnle : ¬ (sLen + n ≤ sCap) := by omega
  obtain ⟨z1, _, _⟩ := zero_sound htb hz ⟨fun _ => 0, fun _ => 0⟩ { w with drawn := w.drawn + 1 }
  have hi := htb.info elem ye hye
  have ho := hold { w with drawn := w.drawn + 1 } rfl
  have hn := hnew { w with drawn := w.drawn + 1 } rfl
  have hq : ∀ k, yx.desc ≠ .int k := fun k e => by rw [e] at hni; cases hni
  generalize yx.desc = dx at *
  unfold Builtin.append_
  cases dx <;> first
    | exact absurd rfl (hq _)
    | simp only [List.getElem?_toArray, List.getElem?_cons_zero, List.getElem?_cons_succ, h0, h1, Sem.run_bind, hus, Result.andThen_ok, htb.size hye, hux, Sem.run_pure, Bool.false_eq_true, if_false, hlen, if_neg hnle,
        hi, Bool.not_false, if_true, false_or, hmax, false_and, hbig, hdraw, run_askRoom, ho, hn, z1, newRow, run_newObj]

/-- an append that has room, by the model's own text -/
theorem run_room (htb : tb.Ok σ P) {st xt elem : TypeId} {rt : TypeId} {ts : Array TypeId} {ys yx ye : Ty} {a : Addr} {sLen sCap n : Nat} {x : Value} {new : Array Value} {w' : World}
    (h0 : ts[0]? = some st) (h1 : ts[1]? = some xt) (hys : tb.ty.get st = some ys) (hyx : tb.ty.get xt = some yx) (hd : ys.desc = .slice elem) (hye : tb.ty.get elem = some ye)
    (hni : notInt yx.desc = true) (hle : sLen + n ≤ sCap)
    (hlen : ∀ w', (Builtin.lenOf x).run P w' = .ok n w') (hnew : (Builtin.firstCells ye.info.size n x).run P w = .ok new w) (hst : (storeCells (a.add (sLen * ye.info.size)) new.toList).run P w = .ok () w') :
    (Builtin.append_ ts rt #[.slice (some a) sLen sCap, x]).run P w = .ok (.slice (some a) (sLen + n) sCap) w' := by
  have hus := htb.under hys
  rw [hd] at hus
  have hux := htb.under hyx
  have hq : ∀ k, yx.desc ≠ .int k := fun k e => by rw [e] at hni; cases hni
  generalize yx.desc = dx at *
  unfold Builtin.append_
  cases dx <;> first
    | exact absurd rfl (hq _)
    | simp only [List.getElem?_toArray, List.getElem?_cons_zero, List.getElem?_cons_succ, h0, h1, Sem.run_bind, hus, Result.andThen_ok, htb.size hye, hux, Sem.run_pure, Bool.false_eq_true, if_false, hlen, if_pos hle,
        Bool.not_false, if_true, hnew, hst]
theorem run_nil (htb : tb.Ok σ P) {st xt elem : TypeId} {rt : TypeId} {ts : Array TypeId} {ys yx ye : Ty} {x : Value} {new : Array Value}
    (h0 : ts[0]? = some st) (h1 : ts[1]? = some xt) (hys : tb.ty.get st = some ys) (hyx : tb.ty.get xt = some yx) (hd : ys.desc = .slice elem) (hye : tb.ty.get elem = some ye)
    (hni : notInt yx.desc = true) (hlen : ∀ w', (Builtin.lenOf x).run P w' = .ok 0 w') (hnew : (Builtin.firstCells ye.info.size 0 x).run P w = .ok new w) :
    (Builtin.append_ ts rt #[.slice none 0 0, x]).run P w = .ok (.slice none 0 0) w := by
  have hus := htb.under hys
  rw [hd] at hus
  have hux := htb.under hyx
  have hq : ∀ k, yx.desc ≠ .int k := fun k e => by rw [e] at hni; cases hni
  generalize yx.desc = dx at *
  unfold Builtin.append_
  cases dx <;> first
    | exact absurd rfl (hq _)
    | simp only [List.getElem?_toArray, List.getElem?_cons_zero, List.getElem?_cons_succ, h0, h1, Sem.run_bind, hus, Result.andThen_ok, htb.size hye, hux, Sem.run_pure, Bool.false_eq_true, if_false, hlen, Nat.add_zero, Nat.le_refl,
        Bool.not_false, if_true, hnew]

theorem append_sound (htb : tb.Ok σ P) (h : Rel σ E H w) {ts : Array TypeId} {rt : TypeId} {s x v : Value} {H' : Hp} (he : appendE tb H ts s x = some (v, H')) :
    ∃ E' w', (Builtin.append_ ts rt #[den σ E s, den σ E x]).run P w = .ok (den σ E' v) w' ∧ Rel σ E' H' w' ∧ Fr E H w E' H' w' := by
  unfold appendE at he
  split at he
  · rename_i st xt base sLen sCap h0 h1
    split at he
    · rename_i ys yx hys hyx
      split at he
      · rename_i elem hd
        split at he
        · rename_i ye z hye hz
          cases hsrc : srcX tb H ye.info.size x with
          | none => rw [hsrc] at he; cases he
          | some nn =>
            obtain ⟨n, new⟩ := nn
            rw [hsrc] at he
            dsimp only at he
            cases hc : (notInt yx.desc && (Nat.beq z.cells.toList.length ye.info.size && (Nat.blt 0 ye.info.size && (Nat.ble (sLen + n) 100000 && (Nat.ble ye.info.bytes 10000 && (Nat.beq new.length (n * ye.info.size) && new.all Value.one)))))) with
            | false => rw [hc] at he; cases he
            | true =>
              rw [hc] at he
              simp only [Bool.and_eq_true, Nat.ble_eq, Nat.blt_eq, Nat.beq_eq] at hc
              obtain ⟨c1, c2, c3, c4, c5, c6, c7⟩ := hc
              dsimp only [cond_true] at he
              obtain ⟨s1, s2, _⟩ := srcX_sound (P := P) htb h hsrc
              have s2' : ∀ w' : World, w'.heap = w.heap → (Builtin.firstCells ye.info.size n (den σ E x)).run P w' = .ok (new.map (den σ E)).toArray w' := by
                intro w' hw'
                have h' : Rel σ E H w' := ⟨by rw [hw']; exact h.blk, h.inj, h.lt, h.ok, by rw [hw']; exact h.ext⟩
                exact (srcX_sound (P := P) htb h' hsrc).2.1
              have zsz : z.cells.size = ye.info.size := by rw [← c2]; rfl
              have hrest : ∀ (k c : Nat), k ≤ c → k * ye.info.size + (Builtin.zeroCells z.cells (c - k)).size = c * ye.info.size := by
                intro k c hkc
                rw [zeroCells_size, zsz, ← Nat.add_mul]
                congr 1
                omega
              have grow : ∀ (base : Option Addr) (cap : Nat) (H1 : Hp) (old : List Value) (v : Value) (H' : Hp), cap < sLen + n → Rel σ E H1 w → Fr E H w E H1 w →
                  (∀ w' : World, w'.heap = w.heap → (Builtin.firstCells ye.info.size sLen (.slice base sLen cap)).run P w' = .ok (old.map (den σ E)).toArray w') → old.length = sLen * ye.info.size →
                  growE H1 ye.info.size elem (sLen + n) (old ++ new) = some (v, H') →
                  ∃ E' w', (Builtin.append_ ts rt #[.slice base sLen cap, den σ E x]).run P w = .ok (den σ E' v) w' ∧ Rel σ E' H' w' ∧ Fr E H w E' H' w' := by
                intro base cap H1 old v H' hcap hR hF hold hol hg
                obtain ⟨newCap, d, g1, g2⟩ := run_grow (rt := rt) (w := w) htb h0 h1 hys hyx hd hye hz c1 c4 c5 hcap s1 hold s2'
                have hr := hrest (sLen + n) newCap g1
                obtain ⟨k1, k2, k3⟩ := grow_new hR hg newCap (rest := Builtin.zeroCells z.cells (newCap - (sLen + n))) (by
                  rw [List.length_append, hol, c6, ← Nat.add_mul]; exact hr) d
                refine ⟨_, _, ?_, k2, hF.trans k3⟩
                rw [g2, k1]
                simp
              split at he
              · split at he
                · cases he
                  refine ⟨E, w, ?_, h, Fr.refl _ _ _⟩
                  rw [den_snil]
                  exact run_nil (w := w) htb h0 h1 hys hyx hd hye c1 s1 s2
                · rename_i hn0
                  rw [den_snil]
                  have hn : 0 < n := by
                    rcases Nat.eq_zero_or_pos n with h | h
                    · exact absurd h hn0
                    · exact h
                  refine grow none 0 H [] v H' (by omega) h (Fr.refl _ _ _) (fun w' _ => by simp [Builtin.firstCells]) (by simp) ?_
                  rw [Nat.zero_add, List.nil_append]
                  exact he
                · cases he
              · rename_i b off
                rw [den_slice]
                cases hpar : Nat.beq (sCap % 2) 0 with
                | true =>
                  rw [hpar] at he
                  have hpar := Nat.eq_of_beq_eq_true hpar
                  dsimp only [cond_true] at he
                  rw [capOf, if_pos hpar]
                  cases hroom : Nat.ble (sLen + n) (sCap / 2) with
                  | true =>
                    rw [hroom] at he
                    have hroom := Nat.le_of_ble_eq_true hroom
                    dsimp only [cond_true] at he
                    cases hp : putCells H b (off + sLen * ye.info.size) new with
                    | none => rw [hp] at he; cases he
                    | some H1 =>
                      rw [hp] at he
                      cases he
                      obtain ⟨w', p1, p2⟩ := putCells_sound (P := P) h hp
                      refine ⟨E, w', ?_, p2⟩
                      rw [den_slice, capOf, if_pos hpar]
                      exact run_room (rt := rt) htb h0 h1 hys hyx hd hye c1 hroom s1 s2 (by rw [Addr.add_mk]; exact p1)
                  | false =>
                    rw [hroom] at he
                    have hroom : ¬ (sLen + n ≤ sCap / 2) := fun hh => by rw [← Nat.ble_eq] at hh; rw [hh] at hroom; cases hroom
                    dsimp only [cond_false] at he
                    cases hcl : H.cells b with
                    | none => rw [hcl] at he; cases he
                    | some c =>
                      rw [hcl] at he
                      dsimp only at he
                      cases hl : Nat.ble (off + sLen * ye.info.size) c.length with
                      | false => rw [hl] at he; cases he
                      | true =>
                        rw [hl] at he
                        have hl := Nat.le_of_ble_eq_true hl
                        dsimp only [cond_true] at he
                        refine grow (some ⟨E.blk b, off, none⟩) (sCap / 2) H ((c.drop off).take (sLen * ye.info.size)) v H' (by omega) h (Fr.refl _ _ _) ?_ (by simp; omega) he
                        intro w' hw'
                        have h' : Rel σ E H w' := ⟨by rw [hw']; exact h.blk, h.inj, h.lt, h.ok, by rw [hw']; exact h.ext⟩
                        have := run_loadCells (P := P) h' hcl off (sLen * ye.info.size) 0 #[] (by omega)
                        rw [Builtin.firstCells, loadCells, this]
                        simp
                | false =>
                  rw [hpar] at he
                  have hpar := Nat.ne_of_beq_eq_false hpar
                  dsimp only [cond_false] at he
                  split at he
                  · rename_i c esz e hg
                    cases hc2 : (Nat.beq sCap 1 && (Nat.beq off 0 && (Nat.beq esz ye.info.size && (Nat.beq e elem && Nat.ble (sLen * ye.info.size) c.length)))) with
                    | false => rw [hc2] at he; cases he
                    | true =>
                      rw [hc2] at he
                      simp only [Bool.and_eq_true, Nat.ble_eq, Nat.beq_eq] at hc2
                      obtain ⟨rfl, rfl, rfl, rfl, d5⟩ := hc2
                      dsimp only [cond_true] at he
                      obtain ⟨rest, hb, hcap⟩ := h.blk b _ hg
                      dsimp only at hcap
                      have hcl : H.cells b = some c := by simp [Hp.cells, hg]
                      rw [capOf, if_neg hpar]
                      simp only [show 1 / 2 = 0 from rfl, Nat.sub_zero]
                      cases hroom : Nat.ble ((sLen + n) * ye.info.size) c.length with
                      | true =>
                        rw [hroom] at he
                        have hroom := Nat.le_of_ble_eq_true hroom
                        dsimp only [cond_true] at he
                        cases hp : putCells H b (0 + sLen * ye.info.size) new with
                        | none => rw [hp] at he; cases he
                        | some H1 =>
                          rw [hp] at he
                          cases he
                          obtain ⟨w', p1, p2⟩ := putCells_sound (P := P) h hp
                          refine ⟨E, w', ?_, p2⟩
                          rw [den_slice, capOf, if_neg hpar]
                          have hrm : sLen + n ≤ E.cap b := by
                            have : (sLen + n) * ye.info.size ≤ E.cap b * ye.info.size := by omega
                            exact Nat.le_of_mul_le_mul_right this c3
                          exact run_room (rt := rt) htb h0 h1 hys hyx hd hye c1 hrm s1 s2 (by rw [Addr.add_mk]; exact p1)
                      | false =>
                        rw [hroom] at he
                        have hroom : ¬ ((sLen + n) * ye.info.size ≤ c.length) := fun hh => by rw [← Nat.ble_eq] at hh; rw [hh] at hroom; cases hroom
                        dsimp only [cond_false] at he
                        cases hk : H.put b none with
                        | none => rw [hk] at he; cases he
                        | some H1 =>
                          rw [hk] at he
                          dsimp only at he
                          have hH1 := (Hp.get_put hk).1
                          by_cases hrm : sLen + n ≤ E.cap b
                          · -- in place
                            unfold growE at he
                            cases hok : (c.take (sLen * ye.info.size) ++ new).all (okV deep H1.nx) with
                            | false => rw [hok] at he; cases he
                            | true =>
                              rw [hok] at he
                              dsimp only [cond_true] at he
                              cases ha : H1.add (.cells (c.take (sLen * ye.info.size) ++ new) (some ye.info.size) e) with
                              | none => rw [ha] at he; cases he
                              | some H2 =>
                                rw [ha] at he
                                cases he
                                have hmul : (sLen + n) * ye.info.size ≤ E.cap b * ye.info.size := Nat.mul_le_mul_right _ hrm
                                have hsn : (sLen + n) * ye.info.size = sLen * ye.info.size + n * ye.info.size := Nat.add_mul _ _ _
                                obtain ⟨w', r1, r2, r3, r4, r5, r6, r7⟩ := run_storeCells (P := P) (new.map (den σ E)) 0 (sLen * ye.info.size) w _ (by
                                  intro v hv
                                  obtain ⟨x, hx, rfl⟩ := List.mem_map.1 hv
                                  exact one_den (List.all_eq_true.1 c7 x hx)) hb (by simp; omega)
                                rw [hH1] at hok
                                have hext := Env.upd_ext E H.nx (E.blk b) (E.cap b)
                                have hm : (c.take (sLen * ye.info.size) ++ new).map (den σ (E.upd H.nx (E.blk b) (E.cap b))) = (c.take (sLen * ye.info.size) ++ new).map (den σ E) := by
                                  refine List.map_congr_left fun x hx => den_ext hext deep x ?_
                                  exact List.all_eq_true.1 hok x hx
                                obtain ⟨q1, q2⟩ := h.again (w' := w') (E.cap b) hg hk ha (o' := .cells (c.take (sLen * ye.info.size) ++ new) (some ye.info.size) e) hok ⟨(((c.map (den σ E)).toArray ++ rest).toList.drop (sLen * ye.info.size + n * ye.info.size)).toArray, by rw [hm], by
                                  show _ = (E.upd H.nx (E.blk b) (E.cap b)).cap H.nx * ye.info.size
                                  rw [Env.upd_cap]
                                  simp [c6]
                                  omega⟩ r2 r3 r4 r5 (by
                                  rw [r6]
                                  congr 2
                                  apply Array.ext'
                                  have ht : ((c.map (den σ E)).toArray ++ rest).toList.take (sLen * ye.info.size + 0) = (c.take (sLen * ye.info.size)).map (den σ E) := by
                                    simp only [Array.toList_append, Nat.add_zero]
                                    rw [List.take_append_of_le_length (by simpa using d5), List.map_take]
                                  rw [ht]
                                  simp [c6]
                                  ) r7
                                refine ⟨_, w', ?_, q1, q2⟩
                                rw [hH1, den_slice, Env.upd_blk, capOf, if_neg hpar, Env.upd_cap]
                                simp only [show 1 / 2 = 0 from rfl, Nat.sub_zero]
                                exact run_room (rt := rt) htb h0 h1 hys hyx hd hye c1 hrm s1 s2 (by rw [Addr.add_mk, Nat.zero_add]; simpa using r1)
                          · obtain ⟨k1, k2⟩ := h.kill hk
                            refine grow (some ⟨E.blk b, 0, none⟩) (E.cap b) H1 (c.take (sLen * ye.info.size)) v H' (by omega) k1 k2 ?_ (by simp; omega) he
                            intro w' hw'
                            have h' : Rel σ E H w' := ⟨by rw [hw']; exact h.blk, h.inj, h.lt, h.ok, by rw [hw']; exact h.ext⟩
                            have := run_loadCells (P := P) h' hcl 0 (sLen * ye.info.size) 0 #[] (by omega)
                            rw [Builtin.firstCells, loadCells, this]
                            simp
                  · cases he
              · cases he
        · cases he
      · cases he
    · cases he
  · cases he
end
end Go.Proofs.Ytnjfbcoddbeggaa.Sx
