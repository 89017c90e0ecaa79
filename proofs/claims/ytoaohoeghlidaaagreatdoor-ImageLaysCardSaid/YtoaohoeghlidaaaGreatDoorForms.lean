/-
  The shapes of the parts of an image, cell by cell.
-/
import Derived.Test.YtoaohoeghlidaaaGreatDoorPure
namespace Go.Proofs.YtoaohoeghlidaaaGreatDoor
open Go.ChangeShapes Go.WideShapes Go.ChangeAt Go.RowKit Go.Joins Go.Deep Go.ChangeMaps

def mk1 (vs : List Value) : Value := vs.headD undef
def mkA (vs : List Value) : Value := .agg vs.toArray
theorem int_is {S : Nat → Prop} {W : World} {vs : List Value} {x : Int} : shInt.Is S W vs x ↔ vs = [.int .i64 x] := Iff.rfl
theorem str_is {S : Nat → Prop} {W : World} {vs : List Value} {x : ByteArray} : shStr.Is S W vs x ↔ vs = [.string x] := Iff.rfl
theorem slice_is {T : Type} {sh : Sh T} {S : Nat → Prop} {W : World} {vs : List Value} {xs : List T} : (shSlice sh).Is S W vs xs ↔ ∃ a l c, vs = [.slice a l c] ∧ Row sh S W a l xs := Iff.rfl
theorem pair_is {A C : Type} {a : Sh A} {c : Sh C} {S : Nat → Prop} {W : World} {vs : List Value} {x : A × C} : (shPair a c).Is S W vs x ↔ ∃ us ws, vs = us ++ ws ∧ a.Is S W us x.1 ∧ c.Is S W ws x.2 := Iff.rfl
theorem table_is {S : Nat → Prop} {W : World} {vs : List Value} {x : TableD} : shTable.Is S W vs x ↔ ∃ a1 l1 c1, vs = [.int .i64 x.face, .slice a1 l1 c1] ∧ Row shInt S W a1 l1 x.slots := by
  constructor
  · rintro ⟨_, _, rfl, rfl, ⟨a1, l1, c1, rfl, h1⟩⟩
    exact ⟨a1, l1, c1, rfl, h1⟩
  · rintro ⟨a1, l1, c1, rfl, h1⟩
    exact ⟨_, _, rfl, rfl, ⟨a1, l1, c1, rfl, h1⟩⟩
theorem op_is {S : Nat → Prop} {W : World} {vs : List Value} {x : OpD} : shOp.Is S W vs x ↔ vs = [.int .i64 x.k, .int .i64 x.a, .int .i64 x.b] := by
  constructor
  · rintro ⟨_, _, rfl, ⟨_, _, rfl, rfl, rfl⟩, rfl⟩
    rfl
  · rintro rfl
    exact ⟨_, _, rfl, ⟨_, _, rfl, rfl, rfl⟩, rfl⟩
theorem link_is {S : Nat → Prop} {W : World} {vs : List Value} {x : LinkD} : shLink.Is S W vs x ↔ vs = [.int .i64 x.g, .int .i64 x.s, .bool x.b] := by
  constructor
  · rintro ⟨_, _, rfl, ⟨_, _, rfl, rfl, rfl⟩, rfl⟩
    rfl
  · rintro rfl
    exact ⟨_, _, rfl, ⟨_, _, rfl, rfl, rfl⟩, rfl⟩
theorem job_is {S : Nat → Prop} {W : World} {vs : List Value} {x : JobD} : shJob.Is S W vs x ↔ vs = [.int .i64 x.c, .int .i64 x.e, .int .i64 x.f] := by
  constructor
  · rintro ⟨_, _, rfl, ⟨_, _, rfl, rfl, rfl⟩, rfl⟩
    rfl
  · rintro rfl
    exact ⟨_, _, rfl, ⟨_, _, rfl, rfl, rfl⟩, rfl⟩
theorem desc_is {S : Nat → Prop} {W : World} {vs : List Value} {x : DescD} : shDesc.Is S W vs x ↔ ∃ a2 l2 c2 a3 l3 c3 a4 l4 c4 a5 l5 c5, vs = [.int .i64 x.base, .string x.fields, .slice a2 l2 c2, .slice a3 l3 c3, .slice a4 l4 c4, .slice a5 l5 c5] ∧ Row shInt S W a2 l2 x.init ∧ Row shInt S W a3 l3 x.vtable ∧ Row shStr S W a4 l4 x.sigs ∧ Row shTable S W a5 l5 x.tables := by
  constructor
  · rintro ⟨_, _, rfl, ⟨_, _, rfl, ⟨_, _, rfl, ⟨_, _, rfl, ⟨_, _, rfl, rfl, rfl⟩, ⟨a2, l2, c2, rfl, h2⟩⟩, ⟨a3, l3, c3, rfl, h3⟩⟩, ⟨a4, l4, c4, rfl, h4⟩⟩, ⟨a5, l5, c5, rfl, h5⟩⟩
    exact ⟨a2, l2, c2, a3, l3, c3, a4, l4, c4, a5, l5, c5, rfl, h2, h3, h4, h5⟩
  · rintro ⟨a2, l2, c2, a3, l3, c3, a4, l4, c4, a5, l5, c5, rfl, h2, h3, h4, h5⟩
    exact ⟨_, _, rfl, ⟨_, _, rfl, ⟨_, _, rfl, ⟨_, _, rfl, ⟨_, _, rfl, rfl, rfl⟩, ⟨a2, l2, c2, rfl, h2⟩⟩, ⟨a3, l3, c3, rfl, h3⟩⟩, ⟨a4, l4, c4, rfl, h4⟩⟩, ⟨a5, l5, c5, rfl, h5⟩⟩
theorem code_is {S : Nat → Prop} {W : World} {vs : List Value} {x : CodeD} : shCode.Is S W vs x ↔ ∃ a5 l5 c5, vs = [.int .i64 x.cls, .string x.params, .string x.locals, .bool x.ret, .int .i64 x.stack, .slice a5 l5 c5] ∧ Row shOp S W a5 l5 x.ops := by
  constructor
  · rintro ⟨_, _, rfl, ⟨_, _, rfl, ⟨_, _, rfl, ⟨_, _, rfl, ⟨_, _, rfl, rfl, rfl⟩, rfl⟩, rfl⟩, rfl⟩, ⟨a5, l5, c5, rfl, h5⟩⟩
    exact ⟨a5, l5, c5, rfl, h5⟩
  · rintro ⟨a5, l5, c5, rfl, h5⟩
    exact ⟨_, _, rfl, ⟨_, _, rfl, ⟨_, _, rfl, ⟨_, _, rfl, ⟨_, _, rfl, rfl, rfl⟩, rfl⟩, rfl⟩, rfl⟩, ⟨a5, l5, c5, rfl, h5⟩⟩
theorem img_is {S : Nat → Prop} {W : World} {vs : List Value} {x : ImgD} : shImg.Is S W vs x ↔ ∃ a0 l0 c0 a1 l1 c1 a2 l2 c2 a3 l3 c3 a5 l5 c5 a6 l6 c6 a7 l7 c7 a8 l8 c8 a9 l9 c9, vs = [.slice a0 l0 c0, .slice a1 l1 c1, .slice a2 l2 c2, .slice a3 l3 c3, .string x.globals, .slice a5 l5 c5, .slice a6 l6 c6, .slice a7 l7 c7, .slice a8 l8 c8, .slice a9 l9 c9, .int .i64 x.d, .int .i64 x.w] ∧ Row shTexts S W a0 l0 x.faces ∧ Row shDesc S W a1 l1 x.classes ∧ Row shCode S W a2 l2 x.codes ∧ Row shInt S W a3 l3 x.insts ∧ Row shInt S W a5 l5 x.init ∧ Row shInt S W a6 l6 x.blocks ∧ Row shLink S W a7 l7 x.ins ∧ Row shLink S W a8 l8 x.outs ∧ Row shJob S W a9 l9 x.jobs := by
  constructor
  · rintro ⟨_, _, rfl, ⟨_, _, rfl, ⟨_, _, rfl, ⟨_, _, rfl, ⟨_, _, rfl, ⟨_, _, rfl, ⟨_, _, rfl, ⟨_, _, rfl, ⟨_, _, rfl, ⟨_, _, rfl, ⟨_, _, rfl, ⟨a0, l0, c0, rfl, h0⟩, ⟨a1, l1, c1, rfl, h1⟩⟩, ⟨a2, l2, c2, rfl, h2⟩⟩, ⟨a3, l3, c3, rfl, h3⟩⟩, rfl⟩, ⟨a5, l5, c5, rfl, h5⟩⟩, ⟨a6, l6, c6, rfl, h6⟩⟩, ⟨a7, l7, c7, rfl, h7⟩⟩, ⟨a8, l8, c8, rfl, h8⟩⟩, ⟨a9, l9, c9, rfl, h9⟩⟩, rfl⟩, rfl⟩
    exact ⟨a0, l0, c0, a1, l1, c1, a2, l2, c2, a3, l3, c3, a5, l5, c5, a6, l6, c6, a7, l7, c7, a8, l8, c8, a9, l9, c9, rfl, h0, h1, h2, h3, h5, h6, h7, h8, h9⟩
  · rintro ⟨a0, l0, c0, a1, l1, c1, a2, l2, c2, a3, l3, c3, a5, l5, c5, a6, l6, c6, a7, l7, c7, a8, l8, c8, a9, l9, c9, rfl, h0, h1, h2, h3, h5, h6, h7, h8, h9⟩
    exact ⟨_, _, rfl, ⟨_, _, rfl, ⟨_, _, rfl, ⟨_, _, rfl, ⟨_, _, rfl, ⟨_, _, rfl, ⟨_, _, rfl, ⟨_, _, rfl, ⟨_, _, rfl, ⟨_, _, rfl, ⟨_, _, rfl, ⟨a0, l0, c0, rfl, h0⟩, ⟨a1, l1, c1, rfl, h1⟩⟩, ⟨a2, l2, c2, rfl, h2⟩⟩, ⟨a3, l3, c3, rfl, h3⟩⟩, rfl⟩, ⟨a5, l5, c5, rfl, h5⟩⟩, ⟨a6, l6, c6, rfl, h6⟩⟩, ⟨a7, l7, c7, rfl, h7⟩⟩, ⟨a8, l8, c8, rfl, h8⟩⟩, ⟨a9, l9, c9, rfl, h9⟩⟩, rfl⟩, rfl⟩
end Go.Proofs.YtoaohoeghlidaaaGreatDoor
