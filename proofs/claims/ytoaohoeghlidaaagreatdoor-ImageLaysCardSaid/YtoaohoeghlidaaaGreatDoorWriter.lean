/-
  The program's writer: single parts.
-/
import Derived.Test.YtoaohoeghlidaaaGreatDoorPure
import Derived.Test.YtoaohoeghlidaaaGreatDoorRows
import Derived.WalkKit
import Derived.ProofKit
import Derived.OpenShut
import Derived.WalkLawsBesides
import Derived.WalkSpells
import Derived.Handy
import Derived.Lib.Hide
import Derived.Deep.QuietTactic
import Derived.BigQuiet
namespace Go.Proofs.YtoaohoeghlidaaaGreatDoor
open Go.ChangeShapes Go.WideShapes Go.ChangeAt Go.RowKit

theorem heap_lt {w : World} {g : Nat} {O : Obj} (h : w.heap[g]? = some O) : g < w.heap.size := by
  rcases Nat.lt_or_ge g w.heap.size with h' | h'
  · exact h'
  · simp [Array.getElem?_eq_none h'] at h

/-- what is neither a writer nor bytes stays as it was -/
def Oth (t1 t2 : TypeId) (W W' : World) : Prop := ∀ (k : Nat) (cs : Array Value) (t : TypeId) (fz : Nat × Nat), W.heap[k]? = some (.cells cs t fz) → t ≠ t1 → t ≠ t2 → W'.heap[k]? = W.heap[k]?
structure Fr (t1 t2 : TypeId) (B : Nat) (W W' : World) : Prop where
  below : Below B W W'
  oth : Oth t1 t2 W W'
theorem Fr.refl (t1 t2 : TypeId) (B : Nat) (W : World) : Fr t1 t2 B W W := ⟨Below.refl _ _, fun _ _ _ _ _ _ _ => rfl⟩
theorem Fr.trans {t1 t2 : TypeId} {B : Nat} {W W1 W2 : World} (h : Fr t1 t2 B W W1) (h' : Fr t1 t2 B W1 W2) : Fr t1 t2 B W W2 :=
  ⟨h.below.trans h'.below, fun i cs t fz hi h1 h2 => (h'.oth i cs t fz ((h.oth i cs t fz hi h1 h2).trans hi) h1 h2).trans (h.oth i cs t fz hi h1 h2)⟩
theorem Fr.alloc {t1 t2 : TypeId} {B : Nat} {W W1 : World} (h : Fr t1 t2 B W W1) (hB : B ≤ W1.heap.size) (o : Obj) : Fr t1 t2 B W (W1.alloc o) :=
  h.trans ⟨(Below.refl _ _).alloc hB o, fun _ _ _ _ hk _ _ => Below.heap_alloc _ _ _ (heap_lt hk)⟩
theorem Fr.set {t1 t2 : TypeId} {B : Nat} {W W1 : World} (h : Fr t1 t2 B W W1) {p : Addr} (hp : B ≤ p.block) {cs : Array Value} {t : TypeId} {fz : Nat × Nat} (hb : W1.heap[p.block]? = some (.cells cs t fz)) (ht : t = t1 ∨ t = t2) (u : Value) : Fr t1 t2 B W (W1.setCell p u) :=
  h.trans ⟨(Below.refl _ _).setCell hp u, fun k _ _ _ hk h1 h2 => Below.heap_setCell _ _ _ _ (fun e => by subst e; rw [hb] at hk; cases hk; rcases ht with e | e <;> contradiction)⟩
theorem Fr.size {t1 t2 : TypeId} {B : Nat} {W W' : World} (h : Fr t1 t2 B W W') : W.heap.size ≤ W'.heap.size := h.below.size
theorem Fr.grown {t1 t2 : TypeId} {B : Nat} {W W1 W2 : World} {e : TypeId} {n : Nat} {v : Value} {xs : List Value} (h : Fr t1 t2 B W W1) (hB : B ≤ W1.heap.size) (hg : W1.grownBy W2 v.ownBlock) (ho : W1.ownsRow B e 1 v n xs) (ht : e = t1 ∨ e = t2) : Fr t1 t2 B W W2 := by
  refine h.trans ⟨(Below.refl _ _).grown hg hB (fun k hk => (ho.lt k hk).1), fun k _ _ _ hk h1 h2 => hg.block k (heap_lt hk) (fun e' => ?_)⟩
  rcases ho.2 with ⟨hv, _⟩ | ⟨g, cap, cur, hv, _, hg', _⟩
  · rw [hv] at e'; cases e'
  · rw [hv] at e'
    simp [Value.ownBlock] at e'
    subst e'
    rw [hg'] at hk
    cases hk
    rcases ht with e | e <;> contradiction

def byteCells (bs : List UInt8) : List Value := bs.map fun b => Value.int .u8 b.toNat
/-- a writer of the program -/
def WAt (W : World) (B b : Nat) (s : Wst) : Prop := B ≤ b ∧ ∃ v, W.heap[b]? = some (.cells #[v, .bool s.full] 64 (0, 0)) ∧ W.ownsRow B 5 1 v s.bs.length (byteCells s.bs)
theorem WAt.cells {W : World} {B b : Nat} {s : Wst} (h : WAt W B b s) : W.cell? ⟨b, 1, none⟩ = some (.bool s.full) ∧ W.frozen? ⟨b, 0, none⟩ = false ∧ W.frozen? ⟨b, 1, none⟩ = false := by
  obtain ⟨_, v, hb, _⟩ := h
  refine ⟨by rw [Lib.cell_of_heap hb]; rfl, Lib.frozen_of_heap hb 0, Lib.frozen_of_heap hb 1⟩
end Go.Proofs.YtoaohoeghlidaaaGreatDoor
