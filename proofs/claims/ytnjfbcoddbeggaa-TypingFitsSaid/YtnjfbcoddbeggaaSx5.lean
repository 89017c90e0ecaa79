/-
  Runs of closed code: operations that make a value and leave memory alone (3).
-/
import Derived.Test.YtnjfbcoddbeggaaSx4
import Derived.Laws.BytesString
namespace Go.Proofs.Ytnjfbcoddbeggaa.Sx
open Go
variable {σ : Sg}

section
variable {P : Program} {tb : Tab} {E : Env} {H : Hp} {w : World}

theorem eqGuard_else {op : BinOp} {t : TypeId} {x y : Operand} {a b : Value} (h1 : ¬ (a = .nilIface ∧ b = .nilIface)) (h2 : ∀ xs ys, a = .agg xs → b = .agg ys → P.eqGuardType P.depth t = false) :
    (eqGuard op t x y a b).run P w = .ok () w := by
  cases op <;> try rfl
  all_goals
    cases a <;> cases b <;> first
      | rfl
      | exact absurd ⟨rfl, rfl⟩ h1
      | (rename_i xs ys; simp [eqGuard, h2 xs ys rfl rfl])

theorem eqE_guard (htb : tb.Ok σ P) {d : Nat} {t : TypeId} {x y : Value} {r : Bool} (h : eqE tb d t x y = some r) :
    ¬ (den σ E x = .nilIface ∧ den σ E y = .nilIface) ∧ ∀ xs ys, den σ E x = .agg xs → den σ E y = .agg ys → P.eqGuardType P.depth t = false := by
  cases d with
  | zero => simp [eqE] at h
  | succ d =>
    rw [eqE] at h
    cases hy : tb.ty.get t with
    | none => rw [hy] at h; cases h
    | some ty =>
      rw [hy] at h
      dsimp only at h
      split at h <;> first
        | (cases h; done)
        | (simp [den_bool, den_int, den_string, den_pnil, den_pointer, den_nilIface, den_iface, den_snil, den_slice, den_mnil, den_map]; done)
        | skip
      rename_i fs xs ys hd
      cases hp : ty.plain with
      | false => rw [hp] at h; cases h
      | true =>
        refine ⟨by simp [den_agg], fun _ _ _ _ => (htb.plain t ty hy hp).2.1⟩

noncomputable def EqlForm (t : TypeId) (x y : Value) : Prop := (binOp .eql t x y = do pure (.bool (← Op.equal t x y))) ∧ (binOp .neq t x y = do pure (.bool (!(← Op.equal t x y))))
theorem eqE_form {d : Nat} {t : TypeId} {x y : Value} {r : Bool} (h : eqE tb d t x y = some r) :
    (∃ k n k' m, x = .int k n ∧ y = .int k' m) ∨ (∃ a b, x = .string a ∧ y = .string b) ∨ EqlForm t (den σ E x) (den σ E y) := by
  cases d with
  | zero => simp [eqE] at h
  | succ d =>
    rw [eqE] at h
    cases hy : tb.ty.get t with
    | none => rw [hy] at h; cases h
    | some ty =>
      rw [hy] at h
      dsimp only at h
      split at h
      · rw [den_bool, den_bool]; exact .inr (.inr ⟨rfl, rfl⟩)
      · exact .inl ⟨_, _, _, _, rfl, rfl⟩
      · exact .inr (.inl ⟨_, _, rfl, rfl⟩)
      · rename_i b _; cases b <;> simp only [den_pnil, den_pointer] <;> exact .inr (.inr ⟨rfl, rfl⟩)
      · simp only [den_pnil, den_pointer]; exact .inr (.inr ⟨rfl, rfl⟩)
      · simp only [den_nilIface, den_iface]; exact .inr (.inr ⟨rfl, rfl⟩)
      · simp only [den_nilIface, den_iface]; exact .inr (.inr ⟨rfl, rfl⟩)
      · rename_i b _ _ _; cases b <;> simp only [den_snil, den_slice] <;> exact .inr (.inr ⟨rfl, rfl⟩)
      · simp only [den_snil, den_slice]; exact .inr (.inr ⟨rfl, rfl⟩)
      · rename_i b _; cases b <;> simp only [den_mnil, den_map] <;> exact .inr (.inr ⟨rfl, rfl⟩)
      · simp only [den_mnil, den_map]; exact .inr (.inr ⟨rfl, rfl⟩)
      · simp only [den_agg]; exact .inr (.inr ⟨rfl, rfl⟩)
      · cases h

theorem bin_sound0 (htb : tb.Ok σ P) {op : BinOp} {t : TypeId} {x y v : Value} {ox oy : Operand} (he : binE0 tb op t x y = some v) :
    ((do eqGuard op t ox oy (den σ E x) (den σ E y); binOp op t (den σ E x) (den σ E y)) : Sem Value).run P w = .ok (den σ E v) w := by
  have main : (∃ r, (op = .eql ∨ op = .neq) ∧ eqE tb 20 t x y = some r ∧ v = .bool (if op = .eql then r else !r)) ∨ (∃ k k' a b, x = .int k a ∧ y = .int k' b) ∨ (∃ a b, x = .string a ∧ y = .string b) := by
    unfold binE0 at he
    split at he
    · exact .inr (.inl ⟨_, _, _, _, rfl, rfl⟩)
    · exact .inr (.inr ⟨_, _, rfl, rfl⟩)
    · left
      cases op <;> dsimp only at he <;> first | (cases he; done) | skip
      all_goals
        split at he
        · rename_i r hr
          cases he
          exact ⟨r, by simp, hr, by simp⟩
        · cases he
  have main2 : (∃ r, (op = .eql ∨ op = .neq) ∧ eqE tb 20 t x y = some r ∧ v = .bool (if op = .eql then r else !r) ∧ EqlForm t (den σ E x) (den σ E y)) ∨ (∃ k k' a b, x = .int k a ∧ y = .int k' b) ∨ (∃ a b, x = .string a ∧ y = .string b) := by
    rcases main with ⟨r, h1, h2, h3⟩ | h | h
    · rcases eqE_form (E := E) h2 with ⟨k, n, k', m, e1, e2⟩ | h | h
      · exact .inr (.inl ⟨k, k', n, m, e1, e2⟩)
      · exact .inr (.inr h)
      · exact .inl ⟨r, h1, h2, h3, h⟩
    · exact .inr (.inl h)
    · exact .inr (.inr h)
  rcases main2 with ⟨r, hop, hr, rfl, hf⟩ | ⟨k, k', a, b, rfl, rfl⟩ | ⟨a, b, rfl, rfl⟩
  · obtain ⟨g1, g2⟩ := eqE_guard (E := E) htb hr
    have h1 : (Op.equal t (den σ E x) (den σ E y)).run P w = .ok r w := (eqE_sound htb E 20).1 _ _ _ _ hr 10000 (by decide) w
    have hg := eqGuard_else (P := P) (w := w) (op := op) (t := t) (x := ox) (y := oy) g1 g2
    simp only [Sem.run_bind, hg, Result.andThen_ok, den_bool]
    rcases hop with rfl | rfl
    · rw [hf.1]
      simp [h1]
    · rw [hf.2]
      simp [h1]
  · obtain ⟨h1, r, h2⟩ := bin_int (P := P) (w := w) he
    have hg : (eqGuard op t ox oy (.int k a) (.int k' b)).run P w = .ok () w := by cases op <;> rfl
    rw [den_int, den_int]
    simp only [Sem.run_bind, hg, Result.andThen_ok, h1]
    rcases h2 with rfl | ⟨_, _, rfl⟩
    · rw [den_bool]
    · rw [den_int]
  · have hg : (eqGuard op t ox oy (.string a) (.string b)).run P w = .ok () w := by cases op <;> rfl
    rw [den_string, den_string]
    simp only [Sem.run_bind, hg, Result.andThen_ok]
    unfold binE0 at he
    dsimp only at he
    cases op <;> dsimp only at he <;> first | (cases he; done) | skip
    · cases hl : Nat.ble (a.size + b.size) 1000000 with
      | false => rw [hl] at he; cases he
      | true =>
        rw [hl] at he
        have hl := Nat.le_of_ble_eq_true hl
        cases he
        have hm : ¬ (((a.size + b.size : Nat) : Int) > IntKind.i64.max) := by
          have : IntKind.i64.max = 9223372036854775807 := by decide
          rw [this]; omega
        simp only [binOp, Op.stringOp, if_neg hm, Sem.run_pure, den_string]
    · cases he; simp [binOp, Op.stringOp, bytesEq_eq, den_bool]
    · cases he; simp [binOp, Op.stringOp, bytesEq_eq, den_bool]
    · cases he; simp [binOp, Op.stringOp, den_bool]

noncomputable def opN : BinOp → Nat
  | .add => 0 | .sub => 1 | .mul => 2 | .quo => 3 | .rem => 4 | .and => 5 | .or => 6 | .xor => 7 | .shl => 8 | .shr => 9 | .andNot => 10
  | .eql => 11 | .neq => 12 | .lss => 13 | .leq => 14 | .gtr => 15 | .geq => 16
theorem opN_inj {a b : BinOp} (h : opN a = opN b) : a = b := by cases a <;> cases b <;> first | rfl | cases h
noncomputable def sEq : Value → Value → Bool
  | .float .f64 i, .float .f64 j => Nat.beq i j
  | .int .i64 a, .int .i64 b => intEqE a b
  | _, _ => false
theorem sEq_eq {x y : Value} (h : sEq x y = true) : x = y := by
  unfold sEq at h
  split at h
  · rw [Nat.eq_of_beq_eq_true h]
  · rename_i a b
    rw [intEqE_eq] at h
    have : a = b := by simpa using h
    rw [this]
  · cases h
noncomputable def orcE (op : BinOp) (x y : Value) : List Orc → Option Value
  | [] => none
  | e :: es => bif Nat.beq (opN e.op) (opN op) && (sEq e.x x && sEq e.y y) then some e.v else orcE op x y es
theorem orcE_mem {op : BinOp} {x y v : Value} : ∀ (l : List Orc), orcE op x y l = some v → (⟨op, x, y, v⟩ : Orc) ∈ l := by
  intro l
  induction l with
  | nil => intro h; cases h
  | cons e l ih =>
    intro h
    simp only [orcE] at h
    cases hc : (Nat.beq (opN e.op) (opN op) && (sEq e.x x && sEq e.y y)) with
    | false => rw [hc] at h; exact List.mem_cons_of_mem _ (ih h)
    | true =>
      rw [hc] at h
      simp only [Bool.and_eq_true] at hc
      have h1 := opN_inj (Nat.eq_of_beq_eq_true hc.1)
      have h2 := sEq_eq hc.2.1
      have h3 := sEq_eq hc.2.2
      cases h
      subst h1 h2 h3
      exact List.mem_cons_self
noncomputable def binE (tb : Tab) (op : BinOp) (t : TypeId) (x y : Value) : Option Value := match binE0 tb op t x y with
  | some v => some v
  | none => orcE op x y tb.orc
theorem bin_sound (htb : tb.Ok σ P) {op : BinOp} {t : TypeId} {x y v : Value} {ox oy : Operand} (he : binE tb op t x y = some v) :
    ((do eqGuard op t ox oy (den σ E x) (den σ E y); binOp op t (den σ E x) (den σ E y)) : Sem Value).run P w = .ok (den σ E v) w := by
  unfold binE at he
  cases h0 : binE0 tb op t x y with
  | some v' => rw [h0] at he; cases he; exact bin_sound0 htb h0
  | none =>
    rw [h0] at he
    obtain ⟨hf, a, b, h1, h2, h3⟩ := htb.orc _ (orcE_mem _ he)
    dsimp only at hf h1 h2 h3
    rw [h1 E, h2 E, flat_den hf E]
    have hg : (eqGuard op t ox oy (.int .i64 a) (.int .i64 b)).run P w = .ok () w := by cases op <;> rfl
    simp only [Sem.run_bind, hg, Result.andThen_ok]
    cases op <;> simp only [intB, Option.some.injEq] at h3 <;> first | (cases h3; done) | (rw [← h3]; simp [binOp, Op.intArith, Op.intCmp])

noncomputable def unE (op : UnOp) : Value → Option Value
  | .int k n => (match op with
    | .neg => some (.int k (wrapE k (0 - n)))
    | _ => none)
  | .bool b => (match op with
    | .not => some (.bool (!b))
    | _ => none)
  | _ => none
theorem un_sound {op : UnOp} {x v : Value} (he : unE op x = some v) : (Op.unary op (den σ E x)).run P w = .ok (den σ E v) w := by
  unfold unE at he
  split at he
  · cases op <;> dsimp only at he <;> first | (cases he; done) | skip
    cases he
    simp [den_int, Op.unary, Op.intArith, wrapE_eq]
  · cases op <;> dsimp only at he <;> first | (cases he; done) | skip
    cases he
    simp [den_bool, Op.unary]
  · cases he

/-! ### conversions -/
noncomputable def bytesOf : List Value → Option (List UInt8)
  | [] => some []
  | .int .u8 n :: r => (match bytesOf r with
    | some l => some (UInt8.ofNat n.toNat :: l)
    | none => none)
  | _ => none
noncomputable def convE (tb : Tab) (H : Hp) (s d : TypeId) (x : Value) : Option Value :=
  match tb.ty.get s, tb.ty.get d with
  | some ys, some yd => (match ys.desc, yd.desc, x with
    | _, .int k, .int _ n => some (.int k (wrapE k n))
    | .string, .string, .string t => some (.string t)
    | .slice e, .string, .slice (some ⟨b, off, none⟩) len _ => (match tb.ty.get e, H.cells b with
      | some ye, some c => (match ye.desc with
        | .int .u8 => bif Nat.ble (off + len) c.length then
            (match bytesOf ((c.drop off).take len) with
            | some l => some (.string ⟨l.toArray⟩)
            | none => none) else none
        | _ => none)
      | _, _ => none)
    | _, _, _ => none)
  | _, _ => none

theorem den_bytes : ∀ (l : List Value) (bs : List UInt8), bytesOf l = some bs → l.map (den σ E) = l ∧ ∃ ns : List Int, l = ns.map (fun n => Value.int .u8 n) ∧ bs = ns.map (fun n => UInt8.ofNat n.toNat) := by
  intro l
  induction l with
  | nil => intro bs h; cases h; exact ⟨rfl, [], rfl, rfl⟩
  | cons v l ih =>
    intro bs h
    unfold bytesOf at h
    split at h
    · rename_i hn; cases hn
    · rename_i n r hn
      cases hn
      cases hr : bytesOf l with
      | none => rw [hr] at h; cases h
      | some l' =>
        rw [hr] at h
        cases h
        obtain ⟨h1, ns, h2, h3⟩ := ih l' hr
        refine ⟨by rw [List.map_cons, h1, den_int], n :: ns, by rw [h2]; rfl, by rw [h3]; rfl⟩
    · cases h

theorem foldl_push_any : ∀ (ns : List Int) (r : ByteArray), ns.foldl (fun r n => r.push (UInt8.ofNat n.toNat)) r = ⟨r.data ++ (ns.map (fun n => UInt8.ofNat n.toNat)).toArray⟩
  | [], r => by simp
  | n :: ns, r => by
    simp only [List.foldl_cons]
    rw [foldl_push_any ns]
    simp [ByteArray.push]

theorem conv_sound (htb : tb.Ok σ P) (h : Rel σ E H w) {s d : TypeId} {x v : Value} (he : convE tb H s d x = some v) : (convert s d (den σ E x)).run P w = .ok (den σ E v) w := by
  unfold convE at he
  cases hs : tb.ty.get s with
  | none => rw [hs] at he; cases he
  | some ys =>
    cases hd : tb.ty.get d with
    | none => rw [hs, hd] at he; cases he
    | some yd =>
      rw [hs, hd] at he
      dsimp only at he
      have us := htb.desc s ys hs
      have ud := htb.desc d yd hd
      split at he
      · rename_i k n hk
        rw [hk] at ud
        cases he
        rw [den_int, den_int]
        cases hq : ys.desc <;> rw [hq] at us <;> simp [convert, run_underlying us, run_underlying ud, Conv.intToInt, wrapE_eq]
      · rename_i t h1 h2
        rw [h1] at us
        rw [h2] at ud
        cases he
        rw [den_string]
        simp [convert, run_underlying us, run_underlying ud]
      · rename_i e b off len cap h1 h2
        rw [h1] at us
        rw [h2] at ud
        cases hye : tb.ty.get e with
        | none => rw [hye] at he; cases he
        | some ye =>
          cases hc : H.cells b with
          | none => rw [hye, hc] at he; cases he
          | some c =>
            rw [hye, hc] at he
            dsimp only at he
            have ue := htb.desc e ye hye
            split at he
            · rename_i h3
              rw [h3] at ue
              cases hl : Nat.ble (off + len) c.length with
              | false => rw [hl] at he; cases he
              | true =>
                rw [hl] at he
                have hl := Nat.le_of_ble_eq_true hl
                dsimp only [cond_true] at he
                cases hbs : bytesOf ((c.drop off).take len) with
                | none => rw [hbs] at he; cases he
                | some l =>
                  rw [hbs] at he
                  cases he
                  obtain ⟨h4, ns, h5, h6⟩ := den_bytes (E := E) _ _ hbs
                  have hrun := run_loadCells (P := P) h hc off len 0 #[] (by omega)
                  simp only [Nat.add_zero] at hrun
                  rw [h4, h5] at hrun
                  rw [den_slice, run_convert_bytes_string w s d e _ _ _ us ue ud, run_bytesToString w _ _ _ ns (by rw [loadCells, hrun]; simp), foldl_push_any, den_string, h6]
                  congr 3
                  exact Array.empty_append
            · cases he
      · cases he

/-! ### slices of slices and texts -/
noncomputable def natOf : Option Value → Nat → Option Nat
  | none, d => some d
  | some (.int _ (.ofNat n)), _ => some n
  | _, _ => none
noncomputable def sliceE (tb : Tab) (H : Hp) (t : TypeId) (x : Value) (lo hi : Option Value) : Option Value :=
  match tb.ty.get t with
  | none => none
  | some y => match y.desc, x with
    | .string, .string s => (match natOf lo 0, natOf hi s.size with
      | some l, some h => bif Nat.ble l h && Nat.ble h s.size then some (.string (s.extract l h)) else none
      | _, _ => none)
    | .slice e, .slice none 0 0 => (match natOf lo 0, natOf hi 0, tb.ty.get e with
      | some 0, some 0, some _ => some (.slice none 0 0)
      | _, _, _ => none)
    | .slice e, .slice (some ⟨b, off, none⟩) len cap => (match natOf lo 0, natOf hi len, tb.ty.get e with
      | some l, some h, some z => bif Nat.beq (cap % 2) 0 then
          (bif Nat.ble l h && Nat.ble h (cap / 2) then some (.slice (some (bif Nat.beq l (cap / 2) then ⟨b, off, none⟩ else ⟨b, off + l * z.info.size, none⟩)) (h - l) (cap - 2 * l)) else none)
        else (match H.get b with
          | some (.cells c (some esz) _) => bif Nat.ble l h && (Nat.beq esz z.info.size && (Nat.blt 0 esz && (Nat.beq off (cap / 2 * esz) && (Nat.ble (off + h * esz) c.length && (Nat.beq l 0 || Nat.blt (off + l * esz) c.length)))))
              then some (.slice (some ⟨b, off + l * z.info.size, none⟩) (h - l) (cap + 2 * l)) else none
          | _ => none)
      | _, _, _ => none)
    | _, _ => none

theorem natOf_bound {o : Option Value} {d n : Nat} (h : natOf o d = some n) : (o = none ∧ n = d) ∨ ∃ k, o = some (.int k (n : Int)) := by
  unfold natOf at h
  split at h
  · cases h; exact .inl ⟨rfl, rfl⟩
  · cases h; exact .inr ⟨_, rfl⟩
  · cases h

theorem run_bounds {iss : Bool} {len cap l h : Nat} {lo hi : Option Value} (h1 : natOf lo 0 = some l) (h2 : natOf hi len = some h) (hl : l ≤ h) (hh : h ≤ cap) (hlc : hi = none → len ≤ cap) :
    (Instr.sliceBounds iss len cap (lo.map (den σ E)) (hi.map (den σ E)) none).run P w = .ok (l, h, cap) w := by
  have _ := hlc
  rcases natOf_bound h1 with ⟨rfl, rfl⟩ | ⟨k, rfl⟩ <;> rcases natOf_bound h2 with ⟨rfl, rfl⟩ | ⟨k', rfl⟩ <;>
    simp [Instr.sliceBounds, Instr.sliceBound, den_int, asIntOf, hl, hh, Int.toNat_natCast]

theorem slice_sound (htb : tb.Ok σ P) (h : Rel σ E H w) {t : TypeId} {x v : Value} {lo hi : Option Value} (he : sliceE tb H t x lo hi = some v) :
    (Instr.sliceAt t (den σ E x) (lo.map (den σ E)) (hi.map (den σ E)) none).run P w = .ok (den σ E v) w := by
  unfold sliceE at he
  cases hy : tb.ty.get t with
  | none => rw [hy] at he; cases he
  | some y =>
    rw [hy] at he
    dsimp only at he
    have hu := htb.desc t y hy
    split at he
    · rename_i s hd
      rw [hd] at hu
      split at he
      · rename_i l hh h1 h2
        cases hc : (Nat.ble l hh && Nat.ble hh s.size) with
        | false => rw [hc] at he; cases he
        | true =>
          rw [hc] at he
          simp only [Bool.and_eq_true, Nat.ble_eq] at hc
          cases he
          rw [den_string, den_string]
          simp [Instr.sliceAt, run_underlying hu, Instr.slice, run_bounds h1 h2 hc.1 hc.2 (fun _ => Nat.le_refl _)]
      · cases he
    · rename_i e hd
      rw [hd] at hu
      split at he
      · rename_i z h1 h2 hz
        cases he
        rw [den_snil]
        simp only [Instr.sliceAt, Sem.run_bind, run_underlying hu, Result.andThen_ok, Instr.slice, run_bounds h1 h2 (Nat.le_refl _) (Nat.le_refl _) (fun _ => Nat.le_refl _), htb.size hz, Sem.run_pure]
        simp
      · cases he
    · rename_i e b off len cap hd
      rw [hd] at hu
      split at he
      · rename_i l hh z h1 h2 hz
        cases hf : Nat.beq (cap % 2) 0 with
        | true =>
          rw [hf] at he
          have hf := Nat.eq_of_beq_eq_true hf
          dsimp only [cond_true] at he
          cases hc : (Nat.ble l hh && Nat.ble hh (cap / 2)) with
          | false => rw [hc] at he; cases he
          | true =>
            rw [hc] at he
            simp only [Bool.and_eq_true, Nat.ble_eq] at hc
            cases he
            rw [den_slice, capOf, if_pos hf]
            simp only [Instr.sliceAt, Sem.run_bind, run_underlying hu, Result.andThen_ok, Instr.slice, run_bounds h1 h2 hc.1 hc.2 (fun e => by subst e; cases h2; exact hc.2), htb.size hz, Sem.run_pure]
            have e1 : (cap - 2 * l) % 2 = 0 := by omega
            have e2 : (cap - 2 * l) / 2 = cap / 2 - l := by omega
            cases hb : Nat.beq l (cap / 2) with
            | true =>
              have hb := Nat.eq_of_beq_eq_true hb
              rw [if_pos hb.symm, cond_true, den_slice, capOf, if_pos e1, e2]
            | false =>
              have hb := Nat.ne_of_beq_eq_false hb
              rw [if_neg (Ne.symm hb), cond_false, den_slice, capOf, if_pos e1, e2]
              simp [Addr.add_mk]
        | false =>
          rw [hf] at he
          have hf := Nat.ne_of_beq_eq_false hf
          dsimp only [cond_false] at he
          split at he
          · rename_i c esz el hg
            cases hc : (Nat.ble l hh && (Nat.beq esz z.info.size && (Nat.blt 0 esz && (Nat.beq off (cap / 2 * esz) && (Nat.ble (off + hh * esz) c.length && (Nat.beq l 0 || Nat.blt (off + l * esz) c.length)))))) with
            | false => rw [hc] at he; cases he
            | true =>
              rw [hc] at he
              simp only [Bool.and_eq_true, Bool.or_eq_true, Nat.ble_eq, Nat.blt_eq, Nat.beq_eq] at hc
              obtain ⟨c1, c2, c3, c4, c5, c6⟩ := hc
              cases he
              obtain ⟨rest, _, hcap⟩ := h.blk b _ hg
              dsimp only at hcap
              have hq : hh ≤ E.cap b - cap / 2 := by
                have : cap / 2 * esz + hh * esz ≤ E.cap b * esz := by omega
                rw [← Nat.add_mul] at this
                have := Nat.le_of_mul_le_mul_right this c3
                omega
              have hm : l = 0 ∨ E.cap b - cap / 2 ≠ l := by
                rcases c6 with c6 | c6
                · exact .inl c6
                · right
                  have : cap / 2 * esz + l * esz < E.cap b * esz := by omega
                  rw [← Nat.add_mul] at this
                  have := Nat.lt_of_mul_lt_mul_right this
                  omega
              rw [den_slice, capOf, if_neg hf]
              simp only [Instr.sliceAt, Sem.run_bind, run_underlying hu, Result.andThen_ok, Instr.slice, run_bounds h1 h2 c1 hq (fun e => by subst e; cases h2; exact hq), htb.size hz, Sem.run_pure]
              have e2 : den σ E (.slice (some ⟨b, off + l * z.info.size, none⟩) (hh - l) (cap + 2 * l)) = .slice (some ⟨E.blk b, off + l * z.info.size, none⟩) (hh - l) (E.cap b - cap / 2 - l) := by
                rw [den_slice, capOf, if_neg (show ¬ (cap + 2 * l) % 2 = 0 by omega)]
                show Value.slice _ _ (E.cap b - (cap + 2 * l) / 2) = _
                rw [show E.cap b - (cap + 2 * l) / 2 = E.cap b - cap / 2 - l by omega]
              rw [e2]
              by_cases hml : E.cap b - cap / 2 = l
              · have hl0 : l = 0 := by rcases hm with h | h <;> first | exact h | exact absurd hml h
                rw [if_pos hml]
                simp [hl0]
              · rw [if_neg hml]
                simp [Addr.add_mk]
          · cases he
      · cases he
    · cases he
end
end Go.Proofs.Ytnjfbcoddbeggaa.Sx
