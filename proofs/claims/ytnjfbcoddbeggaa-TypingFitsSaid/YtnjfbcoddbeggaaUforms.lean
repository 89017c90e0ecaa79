/-
  The shapes of the parts of a unit, cell by cell.
-/
import Derived.Test.YtnjfbcoddbeggaaUpure
namespace Go.Proofs.Ytnjfbcoddbeggaa
open Go Go.ChangeShapes Go.WideShapes Go.ChangeAt Go.RowKit Go.Joins Go.Deep Go.ChangeMaps

theorem int_is {S : Nat → Prop} {W : World} {vs : List Value} {x : Int} : shInt.Is S W vs x ↔ vs = [.int .i64 x] := Iff.rfl
theorem str_is {S : Nat → Prop} {W : World} {vs : List Value} {x : ByteArray} : shStr.Is S W vs x ↔ vs = [.string x] := Iff.rfl
theorem slice_is {T : Type} {sh : Sh T} {S : Nat → Prop} {W : World} {vs : List Value} {xs : List T} : (shSlice sh).Is S W vs xs ↔ ∃ a l c, vs = [.slice a l c] ∧ Row sh S W a l xs := Iff.rfl
theorem type_is {S : Nat → Prop} {W : World} {vs : List Value} {x : TypeU} : shType.Is S W vs x ↔ vs = [.int .i64 x.kind, .int .i64 x.lo, .int .i64 x.hi, .string x.name] := by
  constructor
  · rintro ⟨_, _, rfl, ⟨_, _, rfl, ⟨_, _, rfl, h0, h1⟩, h2⟩, h3⟩
    cases h0; cases h1; cases h2; cases h3; rfl
  · rintro rfl
    exact ⟨[_, _, _], [_], rfl, ⟨[_, _], [_], rfl, ⟨[_], [_], rfl, rfl, rfl⟩, rfl⟩, rfl⟩
theorem var_is {S : Nat → Prop} {W : World} {vs : List Value} {x : VarU} : shVar.Is S W vs x ↔ vs = [.string x.name, .int .i64 x.type.kind, .int .i64 x.type.lo, .int .i64 x.type.hi, .string x.type.name, .int .i64 x.init, .int .i64 x.dir, .int .i64 x.slot] := by
  constructor
  · rintro ⟨_, _, rfl, ⟨_, _, rfl, ⟨_, _, rfl, ⟨_, _, rfl, h0, h1⟩, h2⟩, h3⟩, h4⟩
    cases h0
    obtain rfl := type_is.1 h1
    cases h2
    cases h3
    cases h4
    exact rfl
  · rintro rfl
    exact ⟨[_, _, _, _, _, _, _], [_], rfl, ⟨[_, _, _, _, _, _], [_], rfl, ⟨[_, _, _, _, _], [_], rfl, ⟨[_], [_, _, _, _], rfl, rfl, type_is.2 rfl⟩, rfl⟩, rfl⟩, rfl⟩
theorem meth_is {S : Nat → Prop} {W : World} {vs : List Value} {x : MethU} : shMeth.Is S W vs x ↔ ∃ a4 l4 c4 a6 l6 c6 d7 a7 l7 c7, vs = [.string x.name, .bool x.over, .bool x.abs, .bool x.fin, .slice a4 l4 c4, .int .i64 x.result.kind, .int .i64 x.result.lo, .int .i64 x.result.hi, .string x.result.name, .slice a6 l6 c6, .slice a7 l7 c7] ∧ Row shVar S W a4 l4 x.params ∧ Row shVar S W a6 l6 x.vars ∧ Row (shS d7) S W a7 l7 x.body := by
  constructor
  · rintro ⟨_, _, rfl, ⟨_, _, rfl, ⟨_, _, rfl, ⟨_, _, rfl, ⟨_, _, rfl, ⟨_, _, rfl, ⟨_, _, rfl, h0, h1⟩, h2⟩, h3⟩, h4⟩, h5⟩, h6⟩, h7⟩
    cases h0
    cases h1
    cases h2
    cases h3
    obtain ⟨a4, l4, c4, rfl, r4⟩ := h4
    obtain rfl := type_is.1 h5
    obtain ⟨a6, l6, c6, rfl, r6⟩ := h6
    obtain ⟨d7, a7, l7, c7, rfl, r7⟩ := h7
    exact ⟨_, _, _, _, _, _, _, _, _, _, rfl, r4, r6, r7⟩
  · rintro ⟨a4, l4, c4, a6, l6, c6, d7, a7, l7, c7, rfl, r4, r6, r7⟩
    exact ⟨[_, _, _, _, _, _, _, _, _, _], [_], rfl, ⟨[_, _, _, _, _, _, _, _, _], [_], rfl, ⟨[_, _, _, _, _], [_, _, _, _], rfl, ⟨[_, _, _, _], [_], rfl, ⟨[_, _, _], [_], rfl, ⟨[_, _], [_], rfl, ⟨[_], [_], rfl, rfl, rfl⟩, rfl⟩, rfl⟩, ⟨_, _, _, rfl, r4⟩⟩, type_is.2 rfl⟩, ⟨_, _, _, rfl, r6⟩⟩, ⟨_, _, _, _, rfl, r7⟩⟩
theorem decl_is {S : Nat → Prop} {W : World} {vs : List Value} {x : DeclU} : shDecl.Is S W vs x ↔ ∃ a3 l3 c3 a6 l6 c6 a7 l7 c7 d8 a8 l8 c8, vs = [.int .i64 x.kind, .string x.name, .string x.base, .slice a3 l3 c3, .bool x.abs, .bool x.fin, .slice a6 l6 c6, .slice a7 l7 c7, .slice a8 l8 c8, .int .i64 x.every, .int .i64 x.first] ∧ Row shStr S W a3 l3 x.faces ∧ Row shVar S W a6 l6 x.vars ∧ Row shMeth S W a7 l7 x.methods ∧ Row (shS d8) S W a8 l8 x.body := by
  constructor
  · rintro ⟨_, _, rfl, ⟨_, _, rfl, ⟨_, _, rfl, ⟨_, _, rfl, ⟨_, _, rfl, ⟨_, _, rfl, ⟨_, _, rfl, ⟨_, _, rfl, ⟨_, _, rfl, ⟨_, _, rfl, h0, h1⟩, h2⟩, h3⟩, h4⟩, h5⟩, h6⟩, h7⟩, h8⟩, h9⟩, h10⟩
    cases h0
    cases h1
    cases h2
    obtain ⟨a3, l3, c3, rfl, r3⟩ := h3
    cases h4
    cases h5
    obtain ⟨a6, l6, c6, rfl, r6⟩ := h6
    obtain ⟨a7, l7, c7, rfl, r7⟩ := h7
    obtain ⟨d8, a8, l8, c8, rfl, r8⟩ := h8
    cases h9
    cases h10
    exact ⟨_, _, _, _, _, _, _, _, _, _, _, _, _, rfl, r3, r6, r7, r8⟩
  · rintro ⟨a3, l3, c3, a6, l6, c6, a7, l7, c7, d8, a8, l8, c8, rfl, r3, r6, r7, r8⟩
    exact ⟨[_, _, _, _, _, _, _, _, _, _], [_], rfl, ⟨[_, _, _, _, _, _, _, _, _], [_], rfl, ⟨[_, _, _, _, _, _, _, _], [_], rfl, ⟨[_, _, _, _, _, _, _], [_], rfl, ⟨[_, _, _, _, _, _], [_], rfl, ⟨[_, _, _, _, _], [_], rfl, ⟨[_, _, _, _], [_], rfl, ⟨[_, _, _], [_], rfl, ⟨[_, _], [_], rfl, ⟨[_], [_], rfl, rfl, rfl⟩, rfl⟩, ⟨_, _, _, rfl, r3⟩⟩, rfl⟩, rfl⟩, ⟨_, _, _, rfl, r6⟩⟩, ⟨_, _, _, rfl, r7⟩⟩, ⟨_, _, _, _, rfl, r8⟩⟩, rfl⟩, rfl⟩
theorem e_is {d : Nat} {S : Nat → Prop} {W : World} {vs : List Value} {x : ExprU} : (shE (d + 1)).Is S W vs x ↔ ∃ a4 l4 c4, vs = [.int .i64 x.kind, .int .i64 x.n, .string x.name, .string x.what, .slice a4 l4 c4] ∧ Row (shE d) S W a4 l4 x.args := by
  constructor
  · rintro ⟨_, _, rfl, ⟨_, _, rfl, ⟨_, _, rfl, ⟨_, _, rfl, h0, h1⟩, h2⟩, h3⟩, h4⟩
    cases h0
    cases h1
    cases h2
    cases h3
    obtain ⟨a4, l4, c4, rfl, r4⟩ := h4
    exact ⟨_, _, _, rfl, r4⟩
  · rintro ⟨a4, l4, c4, rfl, r4⟩
    exact ⟨[_, _, _, _], [_], rfl, ⟨[_, _, _], [_], rfl, ⟨[_, _], [_], rfl, ⟨[_], [_], rfl, rfl, rfl⟩, rfl⟩, rfl⟩, ⟨_, _, _, rfl, r4⟩⟩
theorem s_is {d : Nat} {S : Nat → Prop} {W : World} {vs : List Value} {x : StmtU} : (shS (d + 1)).Is S W vs x ↔ ∃ a3 l3 c3 a4 l4 c4 a5 l5 c5, vs = [.int .i64 x.kind, .int .i64 x.n, .string x.name, .slice a3 l3 c3, .slice a4 l4 c4, .slice a5 l5 c5] ∧ Row (shE d) S W a3 l3 x.exprs ∧ Row (shSlice shInt) S W a4 l4 x.labels ∧ Row (shSlice (shS d)) S W a5 l5 x.blocks := by
  constructor
  · rintro ⟨_, _, rfl, ⟨_, _, rfl, ⟨_, _, rfl, ⟨_, _, rfl, ⟨_, _, rfl, h0, h1⟩, h2⟩, h3⟩, h4⟩, h5⟩
    cases h0
    cases h1
    cases h2
    obtain ⟨a3, l3, c3, rfl, r3⟩ := h3
    obtain ⟨a4, l4, c4, rfl, r4⟩ := h4
    obtain ⟨a5, l5, c5, rfl, r5⟩ := h5
    exact ⟨_, _, _, _, _, _, _, _, _, rfl, r3, r4, r5⟩
  · rintro ⟨a3, l3, c3, a4, l4, c4, a5, l5, c5, rfl, r3, r4, r5⟩
    exact ⟨[_, _, _, _, _], [_], rfl, ⟨[_, _, _, _], [_], rfl, ⟨[_, _, _], [_], rfl, ⟨[_, _], [_], rfl, ⟨[_], [_], rfl, rfl, rfl⟩, rfl⟩, ⟨_, _, _, rfl, r3⟩⟩, ⟨_, _, _, rfl, r4⟩⟩, ⟨_, _, _, rfl, r5⟩⟩

theorem e_pos {d : Nat} {S : Nat → Prop} {W : World} {vs : List Value} {x : ExprU} (h : (shE d).Is S W vs x) : ∃ k, d = k + 1 := by
  cases d with
  | zero => exact h.elim
  | succ k => exact ⟨k, rfl⟩
theorem s_pos {d : Nat} {S : Nat → Prop} {W : World} {vs : List Value} {x : StmtU} (h : (shS d).Is S W vs x) : ∃ k, d = k + 1 := by
  cases d with
  | zero => exact h.elim
  | succ k => exact ⟨k, rfl⟩
theorem unit_is {S : Nat → Prop} {W : World} {vs : List Value} {xs : List DeclU} : shUnit.Is S W vs xs ↔ ∃ a l c, vs = [.slice a l c] ∧ Row shDecl S W a l xs := Iff.rfl

end Go.Proofs.Ytnjfbcoddbeggaa
