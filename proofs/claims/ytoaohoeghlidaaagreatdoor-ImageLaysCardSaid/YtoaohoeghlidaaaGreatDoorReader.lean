/-
  The program's reader: what it is in memory, what its functions leave alone.
-/
import Derived.Test.YtoaohoeghlidaaaGreatDoorWNum
import Derived.Test.YtoaohoeghlidaaaGreatDoorForms
import Derived.Laws.BitsAllLaws
namespace Go.Proofs.YtoaohoeghlidaaaGreatDoor
open Go.ChangeShapes Go.WideShapes Go.ChangeAt Go.RowKit

/-- bytes in memory, in a block below lim -/
def Bytes (W : World) (lim : Nat) (a : Option Addr) (n cap : Nat) (B : List UInt8) : Prop :=
  B.length = n ∧ n ≤ cap ∧ cap ≤ maxLen ∧ ((a = none ∧ cap = 0) ∨ ∃ bb o, a = some ⟨bb, o, none⟩ ∧ bb < lim ∧ ∀ (j : Nat) (c : UInt8), B[j]? = some c → W.cell? ⟨bb, o + j, none⟩ = some (.int .u8 c.toNat))
theorem Bytes.keep {W W' : World} {lim : Nat} {a : Option Addr} {n cap : Nat} {B : List UInt8} (h : Bytes W lim a n cap B) (hk : ∀ k, k < lim → W'.heap[k]? = W.heap[k]?) : Bytes W' lim a n cap B := by
  obtain ⟨h1, h2, h3, h4⟩ := h
  refine ⟨h1, h2, h3, ?_⟩
  rcases h4 with h4 | ⟨bb, o, e, hb, hc⟩
  · exact .inl h4
  · exact .inr ⟨bb, o, e, hb, fun j c hj => by rw [World.cell?_of_block (a := ⟨bb, o + j, none⟩) (hk bb hb)]; exact hc j c hj⟩
/-- a reader of the program: its bytes lie below it -/
def RAt (W : World) (b : Nat) (B : List UInt8) (s : Rst) : Prop :=
  ∃ a n cap, W.heap[b]? = some (.cells #[.slice a n cap, .int .i64 (s.at_ : Nat), .bool s.wrong] 94 (0, 0)) ∧ Bytes W b a n cap B ∧ s.at_ ≤ B.length ∧ B.length ≤ 10000000000000
/-- all blocks but b stay -/
structure KFr (b : Nat) (W W' : World) : Prop where
  os : W'.os = W.os
  tape : W'.tape = W.tape
  output : W'.output = W.output
  size : W.heap.size ≤ W'.heap.size
  block : ∀ k, k < W.heap.size → k ≠ b → W'.heap[k]? = W.heap[k]?
theorem KFr.refl (b : Nat) (W : World) : KFr b W W := ⟨rfl, rfl, rfl, Nat.le_refl _, fun _ _ _ => rfl⟩
theorem KFr.trans {b : Nat} {W W1 W2 : World} (h : KFr b W W1) (h' : KFr b W1 W2) : KFr b W W2 :=
  ⟨h'.os.trans h.os, h'.tape.trans h.tape, h'.output.trans h.output, Nat.le_trans h.size h'.size, fun k hk hne => (h'.block k (Nat.lt_of_lt_of_le hk h.size) hne).trans (h.block k hk hne)⟩
theorem KFr.alloc {b : Nat} {W W1 : World} (h : KFr b W W1) (o : Obj) : KFr b W (W1.alloc o) :=
  h.trans ⟨rfl, rfl, rfl, by simp, fun k hk _ => Below.heap_alloc _ _ k hk⟩
theorem KFr.drewN {b : Nat} {W W1 : World} (h : KFr b W W1) (n : Nat) : KFr b W (W1.drewN n) := h.trans ⟨rfl, rfl, rfl, Nat.le_refl _, fun _ _ _ => rfl⟩
theorem setCell_rest (w : World) (p : Addr) (v : Value) (k : Nat) (h : k ≠ p.block) : (w.setCell p v).heap[k]? = w.heap[k]? := Below.heap_setCell _ _ _ _ h
theorem KFr.set {b : Nat} {W W1 : World} (h : KFr b W W1) {p : Addr} (hp : p.block = b ∨ W.heap.size ≤ p.block) (v : Value) : KFr b W (W1.setCell p v) :=
  ⟨h.os, h.tape, h.output, by have := h.size; simpa [World.setCell] using this, fun k hk hne => (setCell_rest _ _ _ _ (by rcases hp with e | e <;> omega)).trans (h.block k hk hne)⟩
theorem RAt.lt {W : World} {b : Nat} {B : List UInt8} {s : Rst} (h : RAt W b B s) : b < W.heap.size := by
  obtain ⟨_, _, _, h, _⟩ := h
  exact heap_lt h
theorem cells3_0 {w : World} {b : Nat} {x y z : Value} {t : TypeId} (v : Value) (h : w.heap[b]? = some (.cells #[x, y, z] t (0, 0))) : (w.setCell ⟨b, 0, none⟩ v).heap[b]? = some (.cells #[v, y, z] t (0, 0)) := by
  simp [World.setCell, Array.getElem?_modify, h]
theorem cells3_1 {w : World} {b : Nat} {x y z : Value} {t : TypeId} (v : Value) (h : w.heap[b]? = some (.cells #[x, y, z] t (0, 0))) : (w.setCell ⟨b, 1, none⟩ v).heap[b]? = some (.cells #[x, v, z] t (0, 0)) := by
  simp [World.setCell, Array.getElem?_modify, h]
theorem cells3_2 {w : World} {b : Nat} {x y z : Value} {t : TypeId} (v : Value) (h : w.heap[b]? = some (.cells #[x, y, z] t (0, 0))) : (w.setCell ⟨b, 2, none⟩ v).heap[b]? = some (.cells #[x, y, v] t (0, 0)) := by
  simp [World.setCell, Array.getElem?_modify, h]
/-- a reader's flag is set -/
theorem RAt.spoil {W : World} {b : Nat} {B : List UInt8} {s : Rst} (h : RAt W b B s) : RAt (W.setCell ⟨b, 2, none⟩ (.bool true)) b B ⟨s.at_, true⟩ ∧ KFr b W (W.setCell ⟨b, 2, none⟩ (.bool true)) := by
  obtain ⟨a, n, cap, h1, h2, h3, h4⟩ := h
  exact ⟨⟨a, n, cap, cells3_2 _ h1, h2.keep (fun k hk => setCell_rest _ _ _ _ (by simp; omega)), h3, h4⟩, (KFr.refl b W).set (p := ⟨b, _, none⟩) (.inl rfl) _⟩
/-- a reader goes on -/
theorem RAt.go {W : World} {b : Nat} {B : List UInt8} {s : Rst} (h : RAt W b B s) (m : Nat) (hm : m ≤ B.length) : RAt (W.setCell ⟨b, 1, none⟩ (.int .i64 m)) b B ⟨m, s.wrong⟩ ∧ KFr b W (W.setCell ⟨b, 1, none⟩ (.int .i64 m)) := by
  obtain ⟨a, n, cap, h1, h2, h3, h4⟩ := h
  exact ⟨⟨a, n, cap, cells3_1 _ h1, h2.keep (fun k hk => setCell_rest _ _ _ _ (by simp; omega)), hm, h4⟩, (KFr.refl b W).set (p := ⟨b, _, none⟩) (.inl rfl) _⟩
theorem RAt.drewN {W : World} {b : Nat} {B : List UInt8} {s : Rst} (h : RAt W b B s) (n : Nat) : RAt (W.drewN n) b B s := by
  obtain ⟨a, m, cap, h1, h2, h3, h4⟩ := h
  exact ⟨a, m, cap, h1, h2.keep (fun _ _ => rfl), h3, h4⟩
theorem RAt.kept {W W' : World} {b : Nat} {B : List UInt8} {s : Rst} (h : RAt W b B s) (hk : ∀ k, k ≤ b → W'.heap[k]? = W.heap[k]?) : RAt W' b B s := by
  obtain ⟨a, n, cap, h1, h2, h3, h4⟩ := h
  exact ⟨a, n, cap, (hk b (Nat.le_refl _)).trans h1, h2.keep (fun k hk' => hk k (by omega)), h3, h4⟩
theorem RAt.cells {W : World} {b : Nat} {B : List UInt8} {s : Rst} (h : RAt W b B s) : ∃ a n cap, W.cell? ⟨b, 0, none⟩ = some (.slice a n cap) ∧ W.cell? ⟨b, 1, none⟩ = some (.int .i64 (s.at_ : Nat)) ∧ W.cell? ⟨b, 2, none⟩ = some (.bool s.wrong) ∧ W.frozen? ⟨b, 1, none⟩ = false ∧ W.frozen? ⟨b, 2, none⟩ = false ∧ Bytes W b a n cap B ∧ s.at_ ≤ n ∧ n ≤ 10000000000000 := by
  obtain ⟨a, n, cap, h1, h2, h3, h4⟩ := h
  refine ⟨a, n, cap, by rw [Lib.cell_of_heap h1]; rfl, by rw [Lib.cell_of_heap h1]; rfl, by rw [Lib.cell_of_heap h1]; rfl, Lib.frozen_of_heap h1 1, Lib.frozen_of_heap h1 2, h2, by rw [← h2.1]; exact h3, by rw [← h2.1]; exact h4⟩

theorem or_byte (x c : Nat) (hx : x < 16777216) (hc : c < 256) : bits BinOp.or IntKind.u32 ((x : Int) * 256) (c : Int) = ((x * 256 + c : Nat) : Int) := by
  have h1 : ((x : Int) * 256) = ((x * 256 : Nat) : Int) := by omega
  rw [h1, u32_or_nat _ _ (by omega) (by omega)]
  have h2 := Nat.shiftLeft_add_eq_or_of_lt (b := c) (i := 8) hc x
  rw [Nat.shiftLeft_eq] at h2
  rw [← h2]
end Go.Proofs.YtoaohoeghlidaaaGreatDoor
