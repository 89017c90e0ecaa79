/-
  TableAlike: a method that came in.
-/
import Derived.Test.YthfefeekfidfoaaEq
import Derived.Deep.Slices
import Derived.Deep.Fields
import Derived.ChangeSame
import Derived.Lib.SmallJoins
import Derived.OpenShut
namespace Go.Proofs.Ythfefeekfidfoaa
open Go Go.Proofs.Ythfefeekfidfoaa.Sx
open Go.ChangeShapes Go.WideShapes Go.ChangeAt Go.RowKit Go.Joins Go.Deep
/-- in one cell -/
def Leaf (v : Value) : Prop := v.cells = #[v] ∧ v.oneCell' = true
theorem leaf_int (k : IntKind) (n : Int) : Leaf (.int k n) := ⟨rfl, rfl⟩
theorem leaf_bool (b : Bool) : Leaf (.bool b) := ⟨rfl, rfl⟩
theorem leaf_string (s : ByteArray) : Leaf (.string s) := ⟨rfl, rfl⟩
theorem leaf_slice (a : Option Addr) (l c : Nat) : Leaf (.slice a l c) := ⟨rfl, rfl⟩
theorem leaf_ptr (a : Addr) : Leaf (.pointer (some a)) := ⟨rfl, rfl⟩
theorem leaf_nil : Leaf .nilFunc := ⟨rfl, rfl⟩
noncomputable def fs26 : List Field := match Try.t26.desc with
  | .struct fs => fs.toList
  | _ => []
theorem d26 : Try.t26.desc = .struct fs26.toArray := by kernel_rfl
theorem m26 : fs26.map (fun f => (f.type, f.offset)) = [(9, 0), (4, 1), (4, 2), (4, 3), (22, 4), (24, 5), (22, 9), (25, 10)] := by kernel_rfl
noncomputable def fs29 : List Field := match Try.t29.desc with
  | .struct fs => fs.toList
  | _ => []
theorem d29 : Try.t29.desc = .struct fs29.toArray := by kernel_rfl
theorem m29 : fs29.map (fun f => (f.type, f.offset)) = [(9, 0), (24, 1), (3, 5), (3, 6), (3, 7)] := by kernel_rfl
theorem u24 : Try.prog.underlying 24 = some (.struct fs23.toArray) := by rw [← d23]; exact Try.underlying24
theorem u27 : Try.prog.underlying 27 = some (.struct fs26.toArray) := by rw [← d26]; exact Try.underlying27
theorem u30 : Try.prog.underlying 30 = some (.struct fs29.toArray) := by rw [← d29]; exact Try.underlying30
theorem c3 : Try.prog.cellsOf 3 = 1 := by kernel_rfl
theorem c4 : Try.prog.cellsOf 4 = 1 := by kernel_rfl
theorem c9 : Try.prog.cellsOf 9 = 1 := by kernel_rfl
theorem c22 : Try.prog.cellsOf 22 = 1 := by kernel_rfl
theorem c24 : Try.prog.cellsOf 24 = 4 := by kernel_rfl
theorem c25 : Try.prog.cellsOf 25 = 1 := by kernel_rfl
theorem c27 : Try.prog.cellsOf 27 = 11 := by kernel_rfl
theorem c30 : Try.prog.cellsOf 30 = 8 := by kernel_rfl
theorem at_map {l : List Field} {m : List (Nat × Nat)} (h : l.map (fun f => (f.type, f.offset)) = m) {i : Nat} {t o : Nat} (hi : m[i]? = some (t, o)) : ∃ f, l.toArray[i]? = some f ∧ f.type = t ∧ f.offset = o := by
  rw [← h, List.getElem?_map] at hi
  cases hl : l[i]? with
  | none => rw [hl] at hi; cases hi
  | some f =>
    rw [hl] at hi
    simp only [Option.map_some, Option.some.injEq, Prod.mk.injEq] at hi
    exact ⟨f, by simpa using hl, hi.1, hi.2⟩
section
variable {H : Type} {enc : TypeId × Value → H} {w : World} {base : Nat} {spare : Nat → Bool} {held : Bool}
/-- one field of a struct, read -/
theorem field_of {fs : List Field} {m : List (Nat × Nat)} (hm : fs.map (fun f => (f.type, f.offset)) = m) {n : Nat} {cs : List Value} {xs : List (DataW H × List MemPlace)} (hlen : xs.length = fs.toArray.size)
    (hg : ∀ (i : Nat) (f : Field), fs.toArray[i]? = some f → DataW.trod enc Try.prog w base spare held n f.type ((cs.drop f.offset).take (Try.prog.cellsOf f.type)) = xs[i]?)
    {i t o : Nat} (hi : m[i]? = some (t, o)) : ∃ y, DataW.trod enc Try.prog w base spare held n t ((cs.drop o).take (Try.prog.cellsOf t)) = some y := by
  obtain ⟨f, hf, rfl, rfl⟩ := at_map hm hi
  have h1 := hg i f hf
  have hlt : i < xs.length := by rw [hlen]; exact (Array.getElem?_eq_some_iff.1 hf).1
  rw [List.getElem?_eq_getElem hlt] at h1
  exact ⟨_, h1⟩
theorem read_ty {n : Nat} {cs : List Value} {y : DataW H × List MemPlace} (h : DataW.trod enc Try.prog w base spare held n 24 cs = some y) : ∃ t : Ty4, cs = t.cells := by
  obtain ⟨xs, k, _, _, hl, hlen, hg⟩ := DataW.trod_struct u24 h
  rw [c24] at hl
  obtain ⟨y0, g0⟩ := field_of m23 hlen hg (i := 0) (t := 3) (o := 0) rfl
  obtain ⟨y1, g1⟩ := field_of m23 hlen hg (i := 1) (t := 3) (o := 1) rfl
  obtain ⟨y2, g2⟩ := field_of m23 hlen hg (i := 2) (t := 3) (o := 2) rfl
  obtain ⟨y3, g3⟩ := field_of m23 hlen hg (i := 3) (t := 9) (o := 3) rfl
  match cs, hl with
  | [v0, v1, v2, v3], _ =>
    rw [c3] at g0 g1 g2
    rw [c9] at g3
    obtain ⟨a0, q0, _⟩ := DataW.trod_int Try.underlying3 g0
    obtain ⟨a1, q1, _⟩ := DataW.trod_int Try.underlying3 g1
    obtain ⟨a2, q2, _⟩ := DataW.trod_int Try.underlying3 g2
    obtain ⟨a3, q3, _⟩ := DataW.trod_string Try.underlying9 g3
    simp at q0 q1 q2 q3
    subst q0 q1 q2 q3
    exact ⟨⟨a0, a1, a2, a3⟩, rfl⟩
theorem read_slice {n t e : Nat} {v : Value} {y : DataW H × List MemPlace} (ht : Try.prog.underlying t = some (.slice e)) (h : DataW.trod enc Try.prog w base spare held n t [v] = some y) : ∃ a l c, v = .slice a l c := by
  rcases open_slice ht h with ⟨hcs, _⟩ | ⟨x, l, c, m, n, D, Pl, hcs, _⟩
  · simp only [List.cons.injEq, and_true] at hcs
    exact ⟨_, _, _, hcs⟩
  · simp only [List.cons.injEq, and_true] at hcs
    exact ⟨_, _, _, hcs⟩
/-- a variable's cells -/
structure Var8 where
  nm : ByteArray
  t : Ty4
  i : Int
  d : Int
  s : Int
instance : Inhabited Var8 := ⟨⟨⟨#[]⟩, ⟨0, 0, 0, ⟨#[]⟩⟩, 0, 0, 0⟩⟩
def Var8.cells (x : Var8) : List Value := .string x.nm :: (x.t.cells ++ [.int .i64 x.i, .int .i64 x.d, .int .i64 x.s])
theorem read_var {n : Nat} {cs : List Value} {y : DataW H × List MemPlace} (h : DataW.trod enc Try.prog w base spare held n 30 cs = some y) : ∃ x : Var8, cs = x.cells := by
  obtain ⟨xs, k, _, _, hl, hlen, hg⟩ := DataW.trod_struct u30 h
  rw [c30] at hl
  obtain ⟨y0, g0⟩ := field_of m29 hlen hg (i := 0) (t := 9) (o := 0) rfl
  obtain ⟨y1, g1⟩ := field_of m29 hlen hg (i := 1) (t := 24) (o := 1) rfl
  obtain ⟨y2, g2⟩ := field_of m29 hlen hg (i := 2) (t := 3) (o := 5) rfl
  obtain ⟨y3, g3⟩ := field_of m29 hlen hg (i := 3) (t := 3) (o := 6) rfl
  obtain ⟨y4, g4⟩ := field_of m29 hlen hg (i := 4) (t := 3) (o := 7) rfl
  match cs, hl with
  | [v0, v1, v2, v3, v4, v5, v6, v7], _ =>
    rw [c9] at g0
    rw [c24] at g1
    rw [c3] at g2 g3 g4
    obtain ⟨a0, q0, _⟩ := DataW.trod_string Try.underlying9 g0
    obtain ⟨t, q1⟩ := read_ty g1
    obtain ⟨a2, q2, _⟩ := DataW.trod_int Try.underlying3 g2
    obtain ⟨a3, q3, _⟩ := DataW.trod_int Try.underlying3 g3
    obtain ⟨a4, q4, _⟩ := DataW.trod_int Try.underlying3 g4
    simp at q0 q1 q2 q3 q4
    subst q0 q2 q3 q4
    refine ⟨⟨a0, t, a2, a3, a4⟩, ?_⟩
    show _ = Value.string a0 :: (t.cells ++ [.int .i64 a2, .int .i64 a3, .int .i64 a4])
    rw [← q1]
    rfl
/-- a method that came in -/
structure Met (w : World) (v : Value) where
  nm : ByteArray
  b1 : Bool
  b2 : Bool
  b3 : Bool
  a : Option Addr
  len : Nat
  cap : Nat
  t : Ty4
  vv : Value
  vb : Value
  p : Nat → Var8
  eq : v = .agg (Array.mk ([.string nm, .bool b1, .bool b2, .bool b3, .slice a len cap] ++ (t.cells ++ [vv, vb])))
  lv : Leaf vv
  lb : Leaf vb
  nil : a = none → len = 0
  row : ∀ x, a = some x → ∀ i, i < len → ∀ j u, (p i).cells[j]? = some u → w.cell? (x.add (8 * i + j)) = some u
theorem open_met {r : Reach} {b0 : Nat} {v : Value} {d : DataW H} {q : List MemPlace} (hv : Value.okWide Try.prog w r b0 27 v) (h : DataW.Trod enc Try.prog w base (fun _ => true) held 27 v d q) : Nonempty (Met w v) := by
  obtain ⟨cs, rfl, hsz⟩ := okWide_struct u27 hv
  rw [c27] at hsz
  obtain ⟨l⟩ := cs
  obtain ⟨fuel, hf⟩ := h
  obtain ⟨xs, k, _, _, hl, hlen, hg⟩ := DataW.trod_struct u27 hf
  obtain ⟨y0, g0⟩ := field_of m26 hlen hg (i := 0) (t := 9) (o := 0) rfl
  obtain ⟨y1, g1⟩ := field_of m26 hlen hg (i := 1) (t := 4) (o := 1) rfl
  obtain ⟨y2, g2⟩ := field_of m26 hlen hg (i := 2) (t := 4) (o := 2) rfl
  obtain ⟨y3, g3⟩ := field_of m26 hlen hg (i := 3) (t := 4) (o := 3) rfl
  obtain ⟨y4, g4⟩ := field_of m26 hlen hg (i := 4) (t := 22) (o := 4) rfl
  obtain ⟨y5, g5⟩ := field_of m26 hlen hg (i := 5) (t := 24) (o := 5) rfl
  obtain ⟨y6, g6⟩ := field_of m26 hlen hg (i := 6) (t := 22) (o := 9) rfl
  obtain ⟨y7, g7⟩ := field_of m26 hlen hg (i := 7) (t := 25) (o := 10) rfl
  match l, hsz with
  | [v0, v1, v2, v3, v4, v5, v6, v7, v8, v9, v10], _ =>
    rw [c9] at g0
    rw [c4] at g1 g2 g3
    rw [c22] at g4 g6
    rw [c24] at g5
    rw [c25] at g7
    obtain ⟨nm, q0, _⟩ := DataW.trod_string Try.underlying9 g0
    obtain ⟨b1, q1, _⟩ := DataW.trod_bool Try.underlying4 g1
    obtain ⟨b2, q2, _⟩ := DataW.trod_bool Try.underlying4 g2
    obtain ⟨b3, q3, _⟩ := DataW.trod_bool Try.underlying4 g3
    obtain ⟨t, q5⟩ := read_ty g5
    simp [Value.cells] at q0 q1 q2 q3 q5 g4 g6 g7
    subst q0 q1 q2 q3
    obtain ⟨a6, l6, c6, rfl⟩ := read_slice Try.underlying22 g6
    obtain ⟨a7, l7, c7, rfl⟩ := read_slice Try.underlying25 g7
    have hT : ∀ a len cap, Value.agg #[.string nm, .bool b1, .bool b2, .bool b3, .slice a len cap, v5, v6, v7, v8, .slice a6 l6 c6, .slice a7 l7 c7] = .agg (Array.mk ([.string nm, .bool b1, .bool b2, .bool b3, .slice a len cap] ++ (t.cells ++ [.slice a6 l6 c6, .slice a7 l7 c7]))) := by
      intro a len cap
      rw [← q5]
      rfl
    rcases open_slice Try.underlying22 g4 with ⟨hcs, _⟩ | ⟨x, l, c, m, n, D, Pl, hcs, _, hlc, hm, hmm, _, hx⟩
    · simp only [List.cons.injEq, and_true] at hcs
      subst hcs
      exact ⟨⟨nm, b1, b2, b3, none, 0, 0, t, _, _, fun _ => default, hT none 0 0, leaf_slice _ _ _, leaf_slice _ _ _, fun _ => rfl, fun x h => nomatch h⟩⟩
    · simp only [List.cons.injEq, and_true] at hcs
      subst hcs
      have hlm : l ≤ m := by rw [hmm]; split <;> omega
      have each : ∀ i, i < m → ∃ z : Var8, ∀ j u, z.cells[j]? = some u → w.cell? (x.add (8 * i + j)) = some u := by
        intro i hi
        obtain ⟨cs', h1, h2⟩ := hx i hi
        rw [c30] at h1
        obtain ⟨_, hlen', hcell⟩ := World.cells?_some h1
        obtain ⟨z, rfl⟩ := read_var h2
        refine ⟨z, fun j u hj => ?_⟩
        have hlt : j < 8 := by
          rcases Nat.lt_or_ge j 8 with hh | hh
          · exact hh
          · rw [List.getElem?_eq_none (by omega)] at hj; cases hj
        have := hcell j hlt
        rw [add_add, hj, Nat.mul_comm i 8] at this
        exact this
      obtain ⟨p, hp⟩ := choose_lt each
      exact ⟨⟨nm, b1, b2, b3, some x, l, c, t, _, _, p, hT _ _ _, leaf_slice _ _ _, leaf_slice _ _ _, (fun h => nomatch h), fun x' hx' i hi => by cases hx'; exact hp i (by omega)⟩⟩
end
end Go.Proofs.Ythfefeekfidfoaa
