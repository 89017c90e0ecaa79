/-
  Scans that came in, as an argument: a slice of structs of a slice of numbers, and a number.
-/
import Derived.Test.YtjbagjmjbfiddaaGreatDoorLaid
import Derived.Deep.Slices
import Derived.Deep.SlicePairs
import Derived.Deep.Fields
import Derived.ChangeSame
import Derived.Lib.SmallJoins
import Derived.Carry
namespace Go.Proofs.YtjbagjmjbfiddaaGreatDoor
open Go.ChangeShapes Go.WideShapes Go.ChangeAt Go.RowKit Go.Joins Go.Deep Go.ChangeMaps

theorem add_at {a : Addr} (h : a.spot = none) (n : Nat) : a.add n = ⟨a.block, a.off + n, none⟩ := by
  unfold Addr.add
  split
  · subst n; cases a; simp_all
  · rfl
theorem spot_of {w : World} {a : Addr} {v : Value} (h : w.cell? a = some v) : a.spot = none := by
  unfold World.cell? at h
  split at h
  · split at h
    · cases h
    · rename_i hs; simpa using hs
  · cases h

/-- a row of numbers -/
def Ints (W : World) (a : Option Addr) (l : Nat) (ns : List Int) : Prop := ns.length = l ∧ (0 < l → ∃ b o, a = some ⟨b, o, none⟩ ∧ ∀ j x, ns[j]? = some x → W.cell? ⟨b, o + j, none⟩ = some (.int .i64 x))
/-- a scan: its numbers' slice, the numbers, the ticks -/
structure ScA where
  a : Option Addr
  l : Nat
  c : Nat
  ns : List Int
  t : Int
instance : Inhabited ScA := ⟨⟨none, 0, 0, [], 0⟩⟩
def ScanAt (W : World) (b o : Nat) (x : ScA) : Prop := W.cell? ⟨b, o, none⟩ = some (.slice x.a x.l x.c) ∧ W.cell? ⟨b, o + 1, none⟩ = some (.int .i64 x.t) ∧ Ints W x.a x.l x.ns
/-- scans in a slice -/
def Scans (W : World) (A : Option Addr) (S : List ScA) : Prop := 0 < S.length → ∃ b o, A = some ⟨b, o, none⟩ ∧ ∀ i x, S[i]? = some x → ScanAt W b (o + 2 * i) x

theorem keep1 {w w1 : World} (hb : Below w.heap.size w w1) {p : Addr} {v : Value} (h : w.cell? p = some v) : w1.cell? p = some v :=
  (hb.cell (World.block_lt_of_cell? _ _ h)).trans h
theorem Ints.keep {w w1 : World} (hb : Below w.heap.size w w1) {a : Option Addr} {l : Nat} {ns : List Int} (h : Ints w a l ns) : Ints w1 a l ns := by
  refine ⟨h.1, fun hp => ?_⟩
  obtain ⟨b, o, e, hc⟩ := h.2 hp
  exact ⟨b, o, e, fun j x hx => keep1 hb (hc j x hx)⟩
theorem Scans.keep {w w1 : World} (hb : Below w.heap.size w w1) {A : Option Addr} {S : List ScA} (h : Scans w A S) : Scans w1 A S := by
  intro hp
  obtain ⟨b, o, e, hc⟩ := h hp
  exact ⟨b, o, e, fun i x hx => ⟨keep1 hb (hc i x hx).1, keep1 hb (hc i x hx).2.1, (hc i x hx).2.2.keep hb⟩⟩

section
variable {H : Type} {enc : TypeId × Value → H} {P : Program} {w : World} {base : Nat} {held : Bool}
theorem ints_of {t e : TypeId} {n : Nat} {v : Value} {y : DataW H × List MemPlace} (ht : P.underlying t = some (.slice e)) (he : P.underlying e = some (.int .i64)) (hc : P.cellsOf e = 1)
    (h : DataW.trod enc P w base (fun _ => true) held n t [v] = some y) : ∃ a l c ns, v = .slice a l c ∧ Ints w a l ns := by
  rcases open_ints ht he hc h with ⟨hcs, _⟩ | ⟨x, l, c, zs, hcs, _, hl, hm, hz, _, hcell, hwz⟩
  · simp only [List.cons.injEq, and_true] at hcs
    exact ⟨none, 0, 0, [], hcs, rfl, fun h => absurd h (Nat.lt_irrefl _)⟩
  · simp only [List.cons.injEq, and_true] at hcs
    have hzl : zs.length = c := by simpa using hz
    refine ⟨some x, l, c, zs.take l, hcs, by simp; omega, fun hp => ?_⟩
    have hsp : x.spot = none := spot_of (by have := hcell 0 (by omega); simpa [Addr.add] using this)
    refine ⟨x.block, x.off, by cases x; simp_all, fun j u hj => ?_⟩
    have hjl : j < l := by
      rcases Nat.lt_or_ge j l with h | h
      · exact h
      · rw [List.getElem?_eq_none (by simp; omega)] at hj; cases hj
    have h2 := hcell j (by omega)
    rw [add_at hsp] at h2
    rw [h2]
    rw [List.getElem?_take, if_pos hjl] at hj
    rw [List.getD, hj]
    rfl

theorem open_scans {t e ti : TypeId} {f0 f1 : Field} {a : Option Addr} {len cap : Nat} {d : DataW H} {p : List MemPlace} (ht : P.underlying t = some (.slice e)) (he : P.underlying e = some (.struct #[f0, f1]))
    (ce : P.cellsOf e = 2) (hone : oneCellFields P #[f0, f1] = true) (t0 : P.underlying f0.type = some (.slice ti)) (t0i : P.underlying ti = some (.int .i64)) (c0i : P.cellsOf ti = 1) (t1 : P.underlying f1.type = some (.int .i64))
    (h : DataW.Trod enc P w base (fun _ => true) held t (.slice a len cap) d p) : ∃ S, S.length = len ∧ len ≤ maxLen ∧ Scans w a S := by
  obtain ⟨fuel, hf⟩ := h
  obtain ⟨o0, k0⟩ := hone_of hone 0 f0 rfl
  obtain ⟨o1, k1⟩ := hone_of hone 1 f1 rfl
  rcases open_slice ht hf with ⟨hcs, _⟩ | ⟨x, l, c, m, n, D, Pl, hcs, _, hl, hm, hmm, _, hx⟩
  · simp [Value.cells] at hcs
    obtain ⟨rfl, rfl, rfl⟩ := hcs
    exact ⟨[], rfl, Nat.zero_le _, fun h => absurd h (Nat.lt_irrefl _)⟩
  · simp [Value.cells] at hcs
    obtain ⟨rfl, rfl, rfl⟩ := hcs
    have hlm : len ≤ m := by rw [hmm]; split <;> omega
    have each : ∀ i, i < m → ∃ q : ScA, w.cell? (x.add (i * 2)) = some (.slice q.a q.l q.c) ∧ w.cell? (x.add (i * 2 + 1)) = some (.int .i64 q.t) ∧ Ints w q.a q.l q.ns := by
      intro i hi
      obtain ⟨cs', h1, h2⟩ := hx i hi
      rw [ce] at h1
      obtain ⟨_, hlen, hcell⟩ := World.cells?_some h1
      obtain ⟨xs, k, hk, hxy, _, hxl, hf⟩ := DataW.trod_struct he h2
      match xs, hxl, cs', hlen with
      | [y0, y1], _, [v0, v1], _ =>
        have g0 := hf 0 f0 rfl
        have g1 := hf 1 f1 rfl
        simp [o0, o1, k0, k1] at g0 g1
        have e0 := hcell 0 (by omega)
        have e1 := hcell 1 (by omega)
        rw [add_add] at e0 e1
        obtain ⟨ia, il, ic, ns, rfl, hns⟩ := ints_of t0 t0i c0i g0
        obtain ⟨a1, q1, _, _⟩ := DataW.trod_int t1 g1
        simp only [List.cons.injEq, and_true] at q1
        subst q1
        exact ⟨⟨ia, il, ic, ns, a1⟩, by simpa using e0, by simpa using e1, hns⟩
    obtain ⟨q, hq⟩ := choose_lt each
    refine ⟨(List.range len).map q, by simp, by omega, fun hpos => ?_⟩
    have hpos' : 0 < len := by simpa using hpos
    have hsp : x.spot = none := spot_of (by have := (hq 0 (by omega)).1; simpa [Addr.add] using this)
    refine ⟨x.block, x.off, by cases x; simp_all, ?_⟩
    intro i j hij
    have hi : i < len := by
      rcases Nat.lt_or_ge i len with h | h
      · exact h
      · rw [List.getElem?_eq_none (by simpa using h)] at hij; cases hij
    have hj : j = q i := by simpa [hi] using hij.symm
    subst hj
    obtain ⟨h0, h1, h2⟩ := hq i (by omega)
    rw [add_at hsp] at h0 h1
    exact ⟨by rw [Nat.mul_comm 2 i]; exact h0, by rw [Nat.mul_comm 2 i]; simpa [Nat.add_assoc] using h1, h2⟩
end
end Go.Proofs.YtjbagjmjbfiddaaGreatDoor
