/-
  Runs of closed code: operations that make a value and leave memory alone.
-/
import Derived.Test.YtnjfbcoddbeggaaSx2
import Derived.Laws.StructEq
import Derived.IntWalk
namespace Go.Proofs.Ytnjfbcoddbeggaa.Sx
open Go
variable {σ : Sg}

structure Ty where
  info : TypeInfo
  desc : TypeDesc
  plain : Bool

/-- what an operator makes of numbers that are not written out -/
structure Orc where
  op : BinOp
  x : Value
  y : Value
  v : Value
/-- the greater, or the lesser, one of two -/
structure Mmo where
  mx : Bool
  x : Value
  y : Value
  v : Value
/-- what a call is known to answer -/
structure Ctr where
  f : FuncId
  args : List Value
  v : Value
/-- what an operation makes of what lies outside -/
structure Xo where
  tag : Nat
  t : TypeId
  vs : List Value
  v : Value
/-- what lies in a row outside: so many things, each of so many cells -/
structure Sr where
  i : Nat
  size : Nat
  n : Nat
  l : List Value
noncomputable def binTag : BinOp → Nat
  | .eql => 10
  | .neq => 11
  | .lss => 12
  | .add => 13
  | _ => 14
noncomputable def tagOf : Op → Option (Nat × TypeId)
  | .load t _ => some (0, t)
  | .indexAddr t _ _ => some (1, t)
  | .binOp op t _ _ _ => some (binTag op, t)
  | .unOp .not _ _ => some (20, 0)
  | .fieldAddr s _ f => some (30 + f, s)
  | .call c => match c.callee with
    | .builtin .len => match c.argTypes[0]? with
      | some t => some (2, t)
      | none => none
    | _ => none
  | _ => none
structure Tab where
  ty : Tr Ty
  fn : Tr Func
  orc : List Orc
  mmo : List Mmo
  ctr : List Ctr
  ext : List Xo
  src : List Sr

noncomputable def intB (op : BinOp) (k : IntKind) (a b : Int) : Option Value := match op with
  | .add => some (.int k (k.wrap (a + b)))
  | .sub => some (.int k (k.wrap (a - b)))
  | .mul => some (.int k (k.wrap (a * b)))
  | .eql => some (.bool (a == b))
  | .neq => some (.bool (a != b))
  | .lss => some (.bool (decide (a < b)))
  | .leq => some (.bool (decide (a ≤ b)))
  | .gtr => some (.bool (decide (a > b)))
  | .geq => some (.bool (decide (a ≥ b)))
  | _ => none
noncomputable def E00 : Env := ⟨fun _ => 0, fun _ => 0⟩
/-- numbers, written out or not, truths and texts -/
noncomputable def flatV : Value → Bool
  | .int _ _ => true
  | .bool _ => true
  | .string _ => true
  | .float .f64 _ => true
  | .float .f32 _ => true
  | _ => false
theorem flat_den {v : Value} (h : flatV v = true) (E : Env) : den σ E v = den σ E00 v := by
  cases v <;> first
    | (cases h; done)
    | simp [den]
    | (rename_i k b; cases k <;> simp [den])

structure Tab.Ok (σ : Sg) (P : Program) (tb : Tab) : Prop where
  info : ∀ t y, tb.ty.get t = some y → ∀ w, (typeInfo t).run P w = .ok y.info w
  desc : ∀ t y, tb.ty.get t = some y → P.underlying t = some y.desc
  plain : ∀ t y, tb.ty.get t = some y → y.plain = true → P.stoodInHeld t = false ∧ P.eqGuardType P.depth t = false ∧ ∀ f ∈ (P.fieldsOf t).toList, f.name ≠ "_"
  fn : ∀ f g, tb.fn.get f = some g → P.funcs[f]? = some g
  call : ∀ f g, tb.fn.get f = some g → ∀ args w, (callFunc f args).run P w = .ok (.enter f args) w
  mixed : P.follows .mixedOrders = true
  orc : ∀ e ∈ tb.orc, flatV e.v = true ∧ ∃ a b, (∀ E, den σ E e.x = .int .i64 a) ∧ (∀ E, den σ E e.y = .int .i64 b) ∧ intB e.op .i64 a b = some (den σ E00 e.v)
  mmo : ∀ e ∈ tb.mmo, flatV e.v = true ∧ ∃ a b, (∀ E, den σ E e.x = .int .i64 a) ∧ (∀ E, den σ E e.y = .int .i64 b) ∧ den σ E00 e.v = .int .i64 (if e.mx then (if b > a then b else a) else (if b < a then b else a))
  ctr : ∀ e ∈ tb.ctr, flatV e.v = true ∧ e.args.all flatV = true ∧ ∀ w, Calls P e.f (e.args.map (den σ E00)).toArray w fun r w' => r = .returned (den σ E00 e.v) ∧ RowKit.Below w.heap.size w w'
  ext : ∀ e ∈ tb.ext, ∀ (ρ : Operand → Value) (o : Oper) (w : World) (E : Env), tagOf o.op = some (e.tag, e.t) → o.op.operands.toList.map ρ = e.vs.map (den σ E) → (∀ p ∈ σ.x, w.heap[p.1]? = some p.2) →
    (execOp ρ o).run P w = .ok (.value (den σ E e.v)) w
  src : ∀ e ∈ tb.src, e.l.length = e.n * e.size ∧ (∀ w, (Builtin.lenOf (σ.v e.i)).run P w = .ok e.n w) ∧
    ∀ E w, (∀ p ∈ σ.x, w.heap[p.1]? = some p.2) → (Builtin.firstCells e.size e.n (σ.v e.i)).run P w = .ok (e.l.map (den σ E)).toArray w

noncomputable def isAggD : TypeDesc → Bool
  | .struct _ => true
  | .array _ _ => true
  | _ => false

section
variable {P : Program} {tb : Tab}
theorem Tab.Ok.under (htb : tb.Ok σ P) {t : TypeId} {y : Ty} (h : tb.ty.get t = some y) (w : World) : (underlying t).run P w = .ok y.desc w := by
  simp [underlying, htb.desc t y h]
theorem Tab.Ok.size (htb : tb.Ok σ P) {t : TypeId} {y : Ty} (h : tb.ty.get t = some y) (w : World) : (sizeOf t).run P w = .ok y.info.size w := by
  simp [sizeOf, htb.info t y h]
theorem Tab.Ok.agg (htb : tb.Ok σ P) {t : TypeId} {y : Ty} (h : tb.ty.get t = some y) (w : World) : (isAgg t).run P w = .ok (isAggD y.desc) w := by
  simp only [isAgg, Sem.run_bind, htb.under h, Result.andThen_ok]
  cases y.desc <;> rfl
theorem Tab.Ok.zero (htb : tb.Ok σ P) {t : TypeId} {y : Ty} (h : tb.ty.get t = some y) {z : Value} (hz : y.info.zero = some z) (w : World) : (zeroValue t).run P w = .ok z w := by
  simp [zeroValue, htb.info t y h, hz]
end

/-! ### Numbers and texts -/
noncomputable def inI64 (m : Nat) : Bool := Nat.ble m 9223372036854775807
theorem inI64_le {m : Nat} (h : inI64 m = true) : m ≤ 9223372036854775807 := Nat.le_of_ble_eq_true h
theorem i64_in {n : Int} (h : -9223372036854775808 ≤ n ∧ n ≤ 9223372036854775807) : IntKind.i64.wrap n = n := IntWalk.i64_in _ h
noncomputable def wrapE (k : IntKind) (n : Int) : Int := match k with
  | .i64 => (match n with
    | .ofNat m => bif inI64 m then .ofNat m else IntKind.i64.wrap n
    | .negSucc m => bif inI64 m then .negSucc m else IntKind.i64.wrap n)
  | k => k.wrap n
theorem cond_fst {α : Type} {c : Bool} {a b : α} (h : c = true → a = b) : (bif c then a else b) = b := by
  cases c
  · rfl
  · exact h rfl
theorem wrapE_eq (k : IntKind) (n : Int) : wrapE k n = k.wrap n := by
  cases k
  case i64 =>
    cases n with
    | ofNat m =>
      refine cond_fst fun hb => (i64_in ?_).symm
      have := inI64_le hb
      rw [Int.ofNat_eq_natCast]
      omega
    | negSucc m =>
      refine cond_fst fun hb => (i64_in ?_).symm
      have := inI64_le hb
      rw [Int.negSucc_eq]
      omega
  all_goals rfl

noncomputable def bytesEqL : List UInt8 → List UInt8 → Bool
  | [], [] => true
  | a :: x, b :: y => Nat.beq a.toNat b.toNat && bytesEqL x y
  | _, _ => false
theorem bytesEqL_eq (x y : List UInt8) : bytesEqL x y = (x == y) := by
  induction x generalizing y with
  | nil => cases y <;> rfl
  | cons a x ih =>
    cases y with
    | nil => rfl
    | cons b y =>
      rw [bytesEqL, ih, List.cons_beq_cons]
      congr 1
      rw [Bool.eq_iff_iff, beq_iff_eq, Nat.beq_eq]
      exact ⟨fun h => UInt8.toNat_inj.1 h, fun h => h ▸ rfl⟩
noncomputable def bytesEq (a b : ByteArray) : Bool := bytesEqL a.data.toList b.data.toList
theorem bytesEq_eq (a b : ByteArray) : bytesEq a b = (a.toList == b.toList) := by
  rw [bytesEq, bytesEqL_eq, ByteArray.toList_eq, ByteArray.toList_eq]

noncomputable def kindEq : IntKind → IntKind → Bool
  | .i8, .i8 => true
  | .i16, .i16 => true
  | .i32, .i32 => true
  | .i64, .i64 => true
  | .u8, .u8 => true
  | .u16, .u16 => true
  | .u32, .u32 => true
  | .u64, .u64 => true
  | _, _ => false
theorem kindEq_eq {a b : IntKind} (h : kindEq a b = true) : a = b := by
  cases a <;> cases b <;> first | rfl | cases h

noncomputable def intEqE : Int → Int → Bool
  | .ofNat a, .ofNat b => Nat.beq a b
  | .negSucc a, .negSucc b => Nat.beq a b
  | _, _ => false
theorem intEqE_eq (a b : Int) : intEqE a b = (a == b) := by
  rw [Bool.eq_iff_iff, beq_iff_eq]
  cases a <;> cases b <;> simp [intEqE, Nat.beq_eq] <;> omega
noncomputable def intLtE : Int → Int → Bool
  | .ofNat a, .ofNat b => Nat.blt a b
  | .negSucc a, .negSucc b => Nat.blt b a
  | .negSucc _, .ofNat _ => true
  | .ofNat _, .negSucc _ => false
theorem intLtE_eq (a b : Int) : intLtE a b = decide (a < b) := by
  rw [Bool.eq_iff_iff, decide_eq_true_iff]
  cases a <;> cases b <;> simp [intLtE, Nat.blt_eq] <;> omega

/-! ### Parts -/
noncomputable def partE (tb : Tab) (t : TypeId) (xs : List Value) (off : Nat) : Option Value := match tb.ty.get t with
  | none => none
  | some y => match isAggD y.desc with
    | true => some (.agg ((xs.drop off).take y.info.size).toArray)
    | false => xs[off]?
theorem run_part {P : Program} {tb : Tab} (htb : tb.Ok σ P) {E : Env} {t : TypeId} {xs : List Value} {off : Nat} {v : Value} (h : partE tb t xs off = some v) (w : World) :
    (part t (xs.map (den σ E)).toArray off).run P w = .ok (den σ E v) w := by
  unfold partE at h
  cases hy : tb.ty.get t with
  | none => rw [hy] at h; cases h
  | some y =>
    rw [hy] at h
    dsimp only at h
    simp only [part, Sem.run_bind, htb.agg hy, Result.andThen_ok]
    cases hd : isAggD y.desc with
    | true =>
      rw [hd] at h
      simp only [Option.some.injEq] at h
      subst h
      simp only [if_true, Sem.run_bind, htb.size hy, Result.andThen_ok, Sem.run_pure, den_agg]
      congr 2
      apply Array.ext'
      simp [List.take_drop]
    | false =>
      rw [hd] at h
      simp only [Bool.false_eq_true, if_false]
      have e : (List.map (den σ E) xs).toArray[off]? = some (den σ E v) := by simp [h]
      rw [e]
      rfl

/-! ### Comparing -/
mutual
noncomputable def eqE (tb : Tab) : Nat → TypeId → Value → Value → Option Bool
  | 0, _, _, _ => none
  | d + 1, t, x, y => match tb.ty.get t with
    | none => none
    | some ty => match ty.desc, x, y with
      | .bool, .bool a, .bool b => some (bif a then b else !b)
      | .int _, .int k a, .int k' b => bif kindEq k k' then some (intEqE a b) else none
      | .string, .string a, .string b => some (bytesEq a b)
      | .pointer _, .pointer none, .pointer b => some b.isNone
      | .pointer _, .pointer (some _), .pointer none => some false
      | .interface _, .nilIface, .iface _ _ => some false
      | .interface _, .iface _ _, .nilIface => some false
      | .slice _, .slice none _ _, .slice b _ _ => some b.isNone
      | .slice _, .slice (some _) _ _, .slice none _ _ => some false
      | .map _ _, .map none, .map b => some b.isNone
      | .map _ _, .map (some _), .map none => some false
      | .struct fs, .agg xs, .agg ys => bif ty.plain then eqFs tb d xs.toList ys.toList fs.toList else none
      | _, _, _ => none
termination_by structural d => d
noncomputable def eqFs (tb : Tab) : Nat → List Value → List Value → List Field → Option Bool
  | 0, _, _, _ => none
  | d + 1, xs, ys, fs => match fs with
    | [] => some true
    | f :: fs => match partE tb f.type xs f.offset, partE tb f.type ys f.offset with
      | some a, some b => (match eqE tb d f.type a b with
        | some true => eqFs tb d xs ys fs
        | some false => some false
        | none => none)
      | _, _ => none
termination_by structural d => d
end

theorem eqE_sound {P : Program} {tb : Tab} (htb : tb.Ok σ P) (E : Env) : ∀ d,
    (∀ t x y r, eqE tb d t x y = some r → ∀ D, d ≤ D → ∀ w, (Op.equalIn D t (den σ E x) (den σ E y)).run P w = .ok r w) ∧
    (∀ xs ys fs r, (∀ f ∈ fs, f.name ≠ "_") → eqFs tb d xs ys fs = some r → ∀ D, d ≤ D + 1 → ∀ w, (Op.eqFields D (xs.map (den σ E)).toArray (ys.map (den σ E)).toArray fs).run P w = .ok r w) := by
  intro d
  induction d with
  | zero => exact ⟨fun t x y r h => by simp [eqE] at h, fun xs ys fs r _ h => by simp [eqFs] at h⟩
  | succ d ih =>
    constructor
    · intro t x y r h D hD w
      obtain ⟨D, rfl⟩ : ∃ D', D = D' + 1 := ⟨D - 1, by omega⟩
      rw [eqE] at h
      cases hy : tb.ty.get t with
      | none => rw [hy] at h; cases h
      | some ty =>
        rw [hy] at h
        have hu := htb.desc t ty hy
        simp only [] at h
        split at h
        · rename_i a b hd
          rw [hd] at hu
          cases h
          rw [den_bool, den_bool, run_equalIn_bool' w D t _ _ hu]
          congr 1
          cases a <;> cases b <;> rfl
        · rename_i _ k a k' b hd
          rw [hd] at hu
          cases hk : kindEq k k' with
          | false => rw [hk] at h; cases h
          | true =>
            rw [hk] at h
            cases h
            cases kindEq_eq hk
            rw [den_int, den_int, run_equalIn_int w D t _ _ _ _ hu, intEqE_eq]
        · rename_i hd
          rw [hd] at hu
          cases h
          rw [den_string, den_string, run_equalIn_string w D t _ _ hu, bytesEq_eq]
        · rename_i e b hd
          rw [hd] at hu
          cases h
          cases b <;> simp [den_pnil, den_pointer, Op.equalIn, run_underlying hu]
        · rename_i e b hd
          rw [hd] at hu
          cases h
          simp [den_pnil, den_pointer, Op.equalIn, run_underlying hu]
        · rename_i hd
          rw [hd] at hu
          cases h
          simp [den_nilIface, den_iface, Op.equalIn, run_underlying hu]
        · rename_i hd
          rw [hd] at hu
          cases h
          simp [den_nilIface, den_iface, Op.equalIn, run_underlying hu]
        · rename_i b _ _ hd
          rw [hd] at hu
          cases h
          cases b <;> simp [den_snil, den_slice, Op.equalIn, run_underlying hu]
        · rename_i hd
          rw [hd] at hu
          cases h
          simp [den_snil, den_slice, Op.equalIn, run_underlying hu]
        · rename_i b hd
          rw [hd] at hu
          cases h
          cases b <;> simp [den_mnil, den_map, Op.equalIn, run_underlying hu]
        · rename_i hd
          rw [hd] at hu
          cases h
          simp [den_mnil, den_map, Op.equalIn, run_underlying hu]
        · rename_i fs xs ys hd
          rw [hd] at hu
          cases hp : ty.plain with
          | false => rw [hp] at h; cases h
          | true =>
            rw [hp] at h
            obtain ⟨h1, _, h3⟩ := htb.plain t ty hy hp
            have hf : P.fieldsOf t = fs := by simp [Program.fieldsOf, hu]
            rw [den_agg, den_agg, run_equalIn_agg w D t _ _ (by rw [hf]; exact hu) h1, hf]
            rw [hf] at h3
            have := ih.2 xs.toList ys.toList fs.toList r h3 h D (by omega) w
            simpa [← List.map_toArray] using this
        · cases h
    · intro xs ys fs r hn h D hD w
      cases fs with
      | nil =>
        simp only [eqFs, Option.some.injEq] at h
        subst h
        rfl
      | cons f fs =>
        simp only [eqFs] at h
        cases ha : partE tb f.type xs f.offset with
        | none => rw [ha] at h; cases h
        | some a =>
          cases hb : partE tb f.type ys f.offset with
          | none => rw [ha, hb] at h; cases h
          | some b =>
            rw [ha, hb] at h
            simp only [] at h
            have hne := hn f List.mem_cons_self
            cases he : eqE tb d f.type a b with
            | none => rw [he] at h; cases h
            | some r1 =>
              rw [he] at h
              have h1 := ih.1 _ _ _ _ he D (by omega) w
              simp only [Op.eqFields, if_pos hne, Sem.run_bind, run_part htb ha, run_part htb hb, Result.andThen_ok, h1]
              cases r1 with
              | true =>
                simp only [] at h
                simp only [Bool.not_true, Bool.false_eq_true, if_false]
                exact ih.2 xs ys fs r (fun g hg => hn g (List.mem_cons_of_mem _ hg)) h D (by omega) w
              | false =>
                simp only [Option.some.injEq] at h
                subst h
                rfl
end Go.Proofs.Ytnjfbcoddbeggaa.Sx
