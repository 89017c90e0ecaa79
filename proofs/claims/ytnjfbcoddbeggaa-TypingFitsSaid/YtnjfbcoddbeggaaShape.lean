/-
  Shapes: what cells hold, told as data; the parts of a unit.
-/
import Derived.RowKit
import Derived.Below
import Derived.Lib.SmallJoins
import Derived.Deep.Slices
import Derived.Deep.Fields
import Derived.ChangeSame
import Derived.Carry
import Derived.Lib.AppendStr
namespace Go.Proofs.Ytnjfbcoddbeggaa
open Go Go.ChangeShapes Go.WideShapes Go.ChangeAt Go.RowKit Go.Joins Go.Deep Go.ChangeMaps
theorem add_at {a : Addr} (h : a.spot = none) (n : Nat) : a.add n = ⟨a.block, a.off + n, none⟩ := by
  unfold Addr.add
  split
  · subst n; cases a; simp_all
  · rfl
theorem spot_of {w : World} {a : Addr} {v : Value} (h : w.cell? a = some v) : a.spot = none := by
  unfold World.cell? at h
  split at h
  · split at h
    · cases h
    · rename_i hs; simpa using hs
  · cases h

/-- the cells from a place on -/
def CellsAt (W : World) (b o : Nat) (vs : List Value) : Prop := ∀ j v, vs[j]? = some v → W.cell? ⟨b, o + j, none⟩ = some v
theorem CellsAt.keep {W W' : World} {b o : Nat} {vs : List Value} (h : CellsAt W b o vs) (hk : W'.heap[b]? = W.heap[b]?) : CellsAt W' b o vs := fun j v hj => by
  rw [World.cell?_of_block (a := ⟨b, o + j, none⟩) hk]; exact h j v hj

/-- so many cells that hold one of T; S: the blocks in which that lies -/
structure Sh (T : Type) where
  n : Nat
  Is : (Nat → Prop) → World → List Value → T → Prop
  len : ∀ {S W vs x}, Is S W vs x → vs.length = n
  keep : ∀ {S : Nat → Prop} {W W' : World} {vs x}, (∀ k, S k → W'.heap[k]? = W.heap[k]?) → Is S W vs x → Is S W' vs x
  wide : ∀ {S S' : Nat → Prop} {W vs x}, (∀ k, S k → S' k) → Is S W vs x → Is S' W vs x

def Row {T : Type} (sh : Sh T) (S : Nat → Prop) (W : World) (a : Option Addr) (l : Nat) (xs : List T) : Prop :=
  xs.length = l ∧ (0 < l → l ≤ maxLen ∧ ∃ b o, a = some ⟨b, o, none⟩ ∧ S b ∧ ∀ i x, xs[i]? = some x → ∃ vs, CellsAt W b (o + i * sh.n) vs ∧ sh.Is S W vs x)
theorem Row.keep {T : Type} {sh : Sh T} {S : Nat → Prop} {W W' : World} {a l xs} (hk : ∀ k, S k → W'.heap[k]? = W.heap[k]?) (h : Row sh S W a l xs) : Row sh S W' a l xs := by
  refine ⟨h.1, fun hp => ?_⟩
  obtain ⟨hm, b, o, e, hS, hx⟩ := h.2 hp
  refine ⟨hm, b, o, e, hS, fun i x hi => ?_⟩
  obtain ⟨vs, h1, h2⟩ := hx i x hi
  exact ⟨vs, h1.keep (hk b hS), sh.keep hk h2⟩
theorem Row.wide {T : Type} {sh : Sh T} {S S' : Nat → Prop} {W : World} {a l xs} (hk : ∀ k, S k → S' k) (h : Row sh S W a l xs) : Row sh S' W a l xs := by
  refine ⟨h.1, fun hp => ?_⟩
  obtain ⟨hm, b, o, e, hS, hx⟩ := h.2 hp
  refine ⟨hm, b, o, e, hk b hS, fun i x hi => ?_⟩
  obtain ⟨vs, h1, h2⟩ := hx i x hi
  exact ⟨vs, h1, sh.wide hk h2⟩
theorem Row.nil {T : Type} (sh : Sh T) (S : Nat → Prop) (W : World) (a : Option Addr) : Row sh S W a 0 [] := ⟨rfl, fun h => absurd h (Nat.lt_irrefl _)⟩
theorem Row.le {T : Type} {sh : Sh T} {S : Nat → Prop} {W : World} {a l} {xs : List T} (h : Row sh S W a l xs) : l ≤ maxLen := by
  rcases Nat.eq_zero_or_pos l with h' | h'
  · omega
  · exact (h.2 h').1
/-- one item: its cells -/
theorem Row.item {T : Type} {sh : Sh T} {S : Nat → Prop} {W : World} {a l} {xs : List T} (h : Row sh S W a l xs) {i : Nat} (hi : i < l) : ∃ (b o : Nat) (x : T) (vs : List Value), a = some ⟨b, o, none⟩ ∧ S b ∧ xs[i]? = some x ∧ CellsAt W b (o + i * sh.n) vs ∧ sh.Is S W vs x := by
  obtain ⟨_, b, o, e, hS, hx⟩ := h.2 (by omega)
  have hxi : xs[i]? = some (xs[i]'(by rw [h.1]; exact hi)) := List.getElem?_eq_getElem _
  obtain ⟨vs, h1, h2⟩ := hx i _ hxi
  exact ⟨b, o, _, vs, e, hS, hxi, h1, h2⟩

def shInt : Sh Int where
  n := 1
  Is _ _ vs x := vs = [.int .i64 x]
  len h := by rw [h]; rfl
  keep _ h := h
  wide _ h := h
def shBool : Sh Bool where
  n := 1
  Is _ _ vs x := vs = [.bool x]
  len h := by rw [h]; rfl
  keep _ h := h
  wide _ h := h
def shStr : Sh ByteArray where
  n := 1
  Is _ _ vs x := vs = [.string x]
  len h := by rw [h]; rfl
  keep _ h := h
  wide _ h := h
def shSlice {T : Type} (sh : Sh T) : Sh (List T) where
  n := 1
  Is S W vs xs := ∃ a l c, vs = [.slice a l c] ∧ Row sh S W a l xs
  len h := by obtain ⟨a, l, c, rfl, _⟩ := h; rfl
  keep hk h := by obtain ⟨a, l, c, e, h⟩ := h; exact ⟨a, l, c, e, h.keep hk⟩
  wide hk h := by obtain ⟨a, l, c, e, h⟩ := h; exact ⟨a, l, c, e, h.wide hk⟩
def shPair {A C : Type} (a : Sh A) (c : Sh C) : Sh (A × C) where
  n := a.n + c.n
  Is S W vs x := ∃ us ws, vs = us ++ ws ∧ a.Is S W us x.1 ∧ c.Is S W ws x.2
  len h := by obtain ⟨us, ws, rfl, h1, h2⟩ := h; rw [List.length_append, a.len h1, c.len h2]
  keep hk h := by obtain ⟨us, ws, e, h1, h2⟩ := h; exact ⟨us, ws, e, a.keep hk h1, c.keep hk h2⟩
  wide hk h := by obtain ⟨us, ws, e, h1, h2⟩ := h; exact ⟨us, ws, e, a.wide hk h1, c.wide hk h2⟩
def shIso {A C : Type} (a : Sh A) (g : C → A) : Sh C where
  n := a.n
  Is S W vs x := a.Is S W vs (g x)
  len h := a.len h
  keep hk h := a.keep hk h
  wide hk h := a.wide hk h

/-! ## a row that was appended to -/
theorem row_of_own {T : Type} {sh : Sh T} {S : Nat → Prop} {W : World} {base : Nat} {e : TypeId} {a : Option Addr} {l c : Nat} {vss : List (List Value)} {xs : List T}
    (h : W.ownsRow base e sh.n (.slice a l c) xs.length vss.flatten) (hl : vss.length = xs.length) (hi : ∀ (i : Nat) (vs : List Value) (x : T), vss[i]? = some vs → xs[i]? = some x → sh.Is S W vs x) (hS : ∀ k, (Value.slice a l c).ownBlock = some k → S k) : Row sh S W a l xs := by
  have hflat : ∀ (vss : List (List Value)) (i j : Nat) (vs : List Value) (v : Value), (∀ u ∈ vss, u.length = sh.n) → vss[i]? = some vs → vs[j]? = some v → vss.flatten[i * sh.n + j]? = some v := by
    intro vss
    induction vss with
    | nil => intro i j vs v _ h1; simp at h1
    | cons u us ih =>
      intro i j vs v hu h1 h2
      have hul := hu u (by simp)
      cases i with
      | zero =>
        simp at h1
        subst h1
        have hj : j < u.length := (List.getElem?_eq_some_iff.1 h2).1
        rw [List.flatten_cons, List.getElem?_append_left (by omega)]
        simpa using h2
      | succ i =>
        have h3 := ih i j vs v (fun x hx => hu x (by simp [hx])) (by simpa using h1) h2
        rw [List.flatten_cons, List.getElem?_append_right (by rw [hul, Nat.succ_mul]; omega), hul, Nat.succ_mul, show i * sh.n + sh.n + j - sh.n = i * sh.n + j by omega]
        exact h3
  have hlen : ∀ u ∈ vss, u.length = sh.n := by
    intro u hu
    obtain ⟨i, hi', rfl⟩ := List.getElem_of_mem hu
    exact sh.len (hi i _ (xs[i]'(by omega)) (List.getElem?_eq_getElem hi') (List.getElem?_eq_getElem (by omega)))
  rcases ownsRow_forms h with ⟨hv, hn⟩ | ⟨g, cap, hv⟩
  · simp at hv
    obtain ⟨rfl, rfl, rfl⟩ := hv
    exact ⟨hn, fun h => absurd h (Nat.lt_irrefl _)⟩
  · simp at hv
    obtain ⟨rfl, rfl, rfl⟩ := hv
    have hm : xs.length ≤ maxLen := by
      rcases h.2 with ⟨h1, _⟩ | ⟨_, _, _, h1, _, _, h2, h3, _⟩
      · simp at h1
      · exact Nat.le_trans h2 h3
    refine ⟨rfl, fun _ => ⟨hm, g, 0, rfl, hS g rfl, fun i x hx => ?_⟩⟩
    have hil : i < vss.length := by have := (List.getElem?_eq_some_iff.1 hx).1; omega
    refine ⟨vss[i], fun j v hj => ?_, hi i _ x (List.getElem?_eq_getElem hil) hx⟩
    have := h.cells (g := g) rfl _ _ (hflat vss i j _ v hlen (List.getElem?_eq_getElem hil) hj)
    rw [add_at rfl] at this
    simpa using this

/-! ## what comes in -/
section
variable {H : Type} {enc : TypeId × Value → H} {P : Program} {w : World} {base : Nat} {held : Bool}
/-- cells of a type that came in hold one of a shape -/
def Opens (enc : TypeId × Value → H) (P : Program) (w : World) (base : Nat) (held : Bool) (t : TypeId) {T : Type} (sh : Sh T) : Prop :=
  ∀ (fuel : Nat) (cs : List Value) (y : DataW H × List MemPlace), DataW.trod enc P w base (fun _ => true) held fuel t cs = some y → ∃ x, sh.Is (fun k => k < w.heap.size) w cs x

theorem opens_int {t : TypeId} (ht : P.underlying t = some (.int .i64)) : Opens enc P w base held t shInt := by
  intro fuel cs y h
  obtain ⟨a, h1, _⟩ := DataW.trod_int ht h
  exact ⟨a, h1⟩
theorem opens_bool {t : TypeId} (ht : P.underlying t = some .bool) : Opens enc P w base held t shBool := by
  intro fuel cs y h
  obtain ⟨a, h1, _⟩ := DataW.trod_bool ht h
  exact ⟨a, h1⟩
theorem opens_str {t : TypeId} (ht : P.underlying t = some .string) : Opens enc P w base held t shStr := by
  intro fuel cs y h
  obtain ⟨a, h1, _⟩ := DataW.trod_string ht h
  exact ⟨a, h1⟩
theorem opens_slice {t e : TypeId} {T : Type} {sh : Sh T} (ht : P.underlying t = some (.slice e)) (hc : P.cellsOf e = sh.n) (hn : 0 < sh.n) (he : Opens enc P w base held e sh) : Opens enc P w base held t (shSlice sh) := by
  intro fuel cs y h
  rcases open_slice ht h with ⟨hcs, _⟩ | ⟨x, l, c, m, n, D, Pl, hcs, _, hl, hm, hmm, hy, hx⟩
  · exact ⟨[], none, 0, 0, hcs, Row.nil _ _ _ _⟩
  · have hlm : l ≤ m := by rw [hmm]; split <;> omega
    have each : ∀ i, i < l → ∃ (q : T), ∃ vs, w.cells? base (x.add (i * P.cellsOf e)) (P.cellsOf e) = some vs ∧ sh.Is (fun k => k < w.heap.size) w vs q := by
      intro i hi
      obtain ⟨cs', h1, h2⟩ := hx i (by omega)
      obtain ⟨q, hq⟩ := he _ _ _ h2
      exact ⟨q, cs', h1, hq⟩
    have hall : ∃ xs : List T, xs.length = l ∧ ∀ i q, xs[i]? = some q → ∃ vs, w.cells? base (x.add (i * P.cellsOf e)) (P.cellsOf e) = some vs ∧ sh.Is (fun k => k < w.heap.size) w vs q := by
      clear hx hcs hl hm hmm hlm hy h
      induction l with
      | zero => exact ⟨[], rfl, fun i q h => by simp at h⟩
      | succ l ih =>
        obtain ⟨xs, h1, h2⟩ := ih (fun i hi => each i (by omega))
        obtain ⟨q, hq⟩ := each l (by omega)
        refine ⟨xs ++ [q], by simp [h1], fun i q' hi => ?_⟩
        rcases Nat.lt_or_ge i xs.length with h | h
        · rw [List.getElem?_append_left h] at hi
          exact h2 i q' hi
        · rw [List.getElem?_append_right h] at hi
          have hi0 : i - xs.length = 0 := by
            rcases Nat.lt_or_ge (i - xs.length) 1 with h' | h'
            · omega
            · rw [List.getElem?_eq_none (by simpa using h')] at hi; cases hi
          rw [hi0] at hi
          obtain rfl : q = q' := by simpa using hi
          obtain rfl : i = l := by omega
          exact hq
    obtain ⟨xs, h1, h2⟩ := hall
    refine ⟨xs, some x, l, c, hcs, h1, fun hp => ?_⟩
    have key : ∀ i q, xs[i]? = some q → ∃ vs, vs.length = sh.n ∧ (∀ j v, vs[j]? = some v → w.cell? ((x.add (i * sh.n)).add j) = some v) ∧ sh.Is (fun k => k < w.heap.size) w vs q := by
      intro i q hi
      obtain ⟨vs, h3, h4⟩ := h2 i q hi
      rw [hc] at h3
      obtain ⟨_, hlen, hcell⟩ := World.cells?_some h3
      refine ⟨vs, hlen, fun j v hj => ?_, h4⟩
      have hjn : j < sh.n := by have := (List.getElem?_eq_some_iff.1 hj).1; omega
      rw [hcell j hjn, hj]
    obtain ⟨vs0, k1, k2, _⟩ := key 0 (xs[0]'(by omega)) (List.getElem?_eq_getElem _)
    have k3 := k2 0 (vs0[0]'(by omega)) (List.getElem?_eq_getElem _)
    rw [Nat.zero_mul] at k3
    have k4 : w.cell? x = some (vs0[0]'(by omega)) := by simpa [Addr.add] using k3
    have hsp := spot_of k4
    refine ⟨Nat.le_trans hl hm, x.block, x.off, by cases x; simp_all, World.block_lt_of_cell? _ _ k4, fun i q hi => ?_⟩
    obtain ⟨vs, k5, k6, k7⟩ := key i q hi
    refine ⟨vs, fun j v hj => ?_, k7⟩
    have := k6 j v hj
    rw [add_at hsp, add_at rfl] at this
    exact this

theorem opens_at {t : TypeId} {T : Type} {sh : Sh T} (he : Opens enc P w base held t sh) {n : Nat} {cs : List Value} {y} (h : DataW.trod enc P w base (fun _ => true) held n t cs = some y) : ∃ x, sh.Is (fun k => k < w.heap.size) w cs x := he n cs y h

/-- the fields of a struct, a cell each -/
theorem fields_of {fs : Array Field} {t : TypeId} {fuel : Nat} {cs : List Value} {y : DataW H × List MemPlace} (ht : P.underlying t = some (.struct fs)) (hone : oneCellFields P fs = true) (hc : P.cellsOf t = fs.size)
    (h : DataW.trod enc P w base (fun _ => true) held fuel t cs = some y) : cs.length = fs.size ∧ ∀ (i : Nat) (f : Field), fs[i]? = some f → ∃ v n z, cs[i]? = some v ∧ DataW.trod enc P w base (fun _ => true) held n f.type [v] = some z := by
  obtain ⟨xs, k, _, _, hlen, hxl, hf⟩ := DataW.trod_struct ht h
  rw [hc] at hlen
  refine ⟨hlen, fun i f hi => ?_⟩
  obtain ⟨o1, c1⟩ := hone_of hone i f hi
  have hil : i < fs.size := (Array.getElem?_eq_some_iff.1 hi).1
  have h1 := hf i f hi
  rw [o1, c1, List.getElem?_eq_getElem (by omega : i < xs.length)] at h1
  have h2 : (cs.drop i).take 1 = [cs[i]'(by omega)] := by rw [List.drop_eq_getElem_cons (by omega)]; rfl
  rw [h2] at h1
  exact ⟨_, k, _, List.getElem?_eq_getElem (by omega), h1⟩
end

/-! ## expressions, statements: how deep they are is part of their shape -/
section
theorem Row.turn {T : Type} {sh sh' : Sh T} {S : Nat → Prop} {W : World} {a l xs} (hn : sh.n = sh'.n) (hk : ∀ vs x, sh.Is S W vs x → sh'.Is S W vs x) (h : Row sh S W a l xs) : Row sh' S W a l xs := by
  refine ⟨h.1, fun hp => ?_⟩
  obtain ⟨hm, b, o, e, hS, hx⟩ := h.2 hp
  refine ⟨hm, b, o, e, hS, fun i x hi => ?_⟩
  obtain ⟨vs, h1, h2⟩ := hx i x hi
  exact ⟨vs, by rw [← hn]; exact h1, hk _ _ h2⟩
theorem seg_of {H : Type} {enc : TypeId × Value → H} {P : Program} {w : World} {base : Nat} {held : Bool} {fs : Array Field} {t : TypeId} {fuel : Nat} {cs : List Value} {y : DataW H × List MemPlace} (ht : P.underlying t = some (.struct fs))
    (h : DataW.trod enc P w base (fun _ => true) held fuel t cs = some y) : ∃ n, fuel = n + 1 ∧ cs.length = P.cellsOf t ∧ ∀ (i : Nat) (f : Field), fs[i]? = some f → ∃ z, DataW.trod enc P w base (fun _ => true) held n f.type ((cs.drop f.offset).take (P.cellsOf f.type)) = some z := by
  obtain ⟨xs, k, hk, _, hlen, hxl, hf⟩ := DataW.trod_struct ht h
  refine ⟨k, hk, hlen, fun i f hi => ?_⟩
  have hil : i < fs.size := (Array.getElem?_eq_some_iff.1 hi).1
  have h1 := hf i f hi
  rw [List.getElem?_eq_getElem (by omega : i < xs.length)] at h1
  exact ⟨_, h1⟩
end

structure TypeU where
  kind : Int
  lo : Int
  hi : Int
  name : ByteArray
structure VarU where
  name : ByteArray
  type : TypeU
  init : Int
  dir : Int
  slot : Int
structure ExprU where
  kind : Int
  n : Int
  name : ByteArray
  what : ByteArray
  args : List ExprU
structure StmtU where
  kind : Int
  n : Int
  name : ByteArray
  exprs : List ExprU
  labels : List (List Int)
  blocks : List (List StmtU)
structure MethU where
  name : ByteArray
  over : Bool
  abs : Bool
  fin : Bool
  params : List VarU
  result : TypeU
  vars : List VarU
  body : List StmtU
structure DeclU where
  kind : Int
  name : ByteArray
  base : ByteArray
  faces : List ByteArray
  abs : Bool
  fin : Bool
  vars : List VarU
  methods : List MethU
  body : List StmtU
  every : Int
  first : Int

def shNone (T : Type) (n : Nat) : Sh T where
  n := n
  Is _ _ _ _ := False
  len h := h.elim
  keep _ h := h
  wide _ h := h
/-- of some depth -/
def shSome {T : Type} (n : Nat) (f : Nat → Sh T) (hf : ∀ d, (f d).n = n) : Sh T where
  n := n
  Is S W vs x := ∃ d, (f d).Is S W vs x
  len h := by obtain ⟨d, h⟩ := h; rw [(f d).len h, hf]
  keep hk h := by obtain ⟨d, h⟩ := h; exact ⟨d, (f d).keep hk h⟩
  wide hk h := by obtain ⟨d, h⟩ := h; exact ⟨d, (f d).wide hk h⟩
def shType : Sh TypeU := shIso (shPair (shPair (shPair shInt shInt) shInt) shStr) (fun x => (((x.kind, x.lo), x.hi), x.name))
def shVar : Sh VarU := shIso (shPair (shPair (shPair (shPair shStr shType) shInt) shInt) shInt) (fun x => ((((x.name, x.type), x.init), x.dir), x.slot))
def shE : Nat → Sh ExprU
  | 0 => shNone _ 5
  | d + 1 => shIso (shPair (shPair (shPair (shPair shInt shInt) shStr) shStr) (shSlice (shE d))) (fun x => ((((x.kind, x.n), x.name), x.what), x.args))
theorem shE_n : ∀ d, (shE d).n = 5
  | 0 => rfl
  | _ + 1 => rfl
def shS : Nat → Sh StmtU
  | 0 => shNone _ 6
  | d + 1 => shIso (shPair (shPair (shPair (shPair (shPair shInt shInt) shStr) (shSlice (shE d))) (shSlice (shSlice shInt))) (shSlice (shSlice (shS d)))) (fun x => (((((x.kind, x.n), x.name), x.exprs), x.labels), x.blocks))
theorem shS_n : ∀ d, (shS d).n = 6
  | 0 => rfl
  | _ + 1 => rfl
/-- expressions of some depth; statements of some depth -/
def shExpr : Sh ExprU := shSome 5 shE shE_n
def shExprs : Sh (List ExprU) := shSome 1 (fun d => shSlice (shE d)) (fun _ => rfl)
def shStmts : Sh (List StmtU) := shSome 1 (fun d => shSlice (shS d)) (fun _ => rfl)
def shVars : Sh (List VarU) := shSlice shVar
def shMeth : Sh MethU := shIso (shPair (shPair (shPair (shPair (shPair (shPair (shPair shStr shBool) shBool) shBool) shVars) shType) shVars) shStmts) (fun x => (((((((x.name, x.over), x.abs), x.fin), x.params), x.result), x.vars), x.body))
def shDecl : Sh DeclU := shIso (shPair (shPair (shPair (shPair (shPair (shPair (shPair (shPair (shPair (shPair shInt shStr) shStr) (shSlice shStr)) shBool) shBool) shVars) (shSlice shMeth)) shStmts) shInt) shInt)
  (fun x => ((((((((((x.kind, x.name), x.base), x.faces), x.abs), x.fin), x.vars), x.methods), x.body), x.every), x.first))
def shUnit : Sh (List DeclU) := shSlice shDecl

end Go.Proofs.Ytnjfbcoddbeggaa
