/-
  What Print writes.
-/
import Derived.Test.YtjbagjmjbfiddaaGreatDoorMark
namespace Go.Proofs.YtjbagjmjbfiddaaGreatDoor
open Go.ChangeShapes Go.WideShapes Go.ChangeAt Go.RowKit

def numB (n : Int) : List UInt8 := 32 :: Lib.itoa n
def scanB (x : ScA) : List UInt8 := ([115, 99, 97, 110, 32] ++ Lib.itoa x.t ++ x.ns.flatMap numB) ++ [10]
def headB (src : ByteArray) : List UInt8 := [115, 114, 99, 32] ++ (hexOf src).data.toList ++ [10]
def textB (src : ByteArray) (S : List ScA) : List UInt8 := headB src ++ S.flatMap scanB
def printOf (src : ByteArray) (S : List ScA) : List UInt8 × Int :=
  if S.all mayOf then (if 65536 < (textB src S).length then ([], 24) else (textB src S, 0)) else ([], 22)

theorem dec_len10 : ∀ (k n : Nat), n < 10 ^ (k + 1) → (Lib.decDigits n).length ≤ k + 1
  | 0, n, h => by rw [Lib.decDigits_one (by simpa using h)]; simp
  | k + 1, n, h => by
    rw [Lib.decDigits]
    split
    · simp
    · have := dec_len10 k (n / 10) (by rw [Nat.pow_succ] at h; omega)
      simp
      omega
theorem itoa_len {n : Int} (h : isNum n = true) : (Lib.itoa n).length ≤ 11 := by
  unfold isNum at h
  simp at h
  unfold Lib.itoa
  split
  · have := dec_len10 9 n.natAbs (by omega)
    simp
    omega
  · have := dec_len10 9 n.toNat (by omega)
    omega
theorem nums_len : ∀ {ns : List Int}, (∀ n ∈ ns, isNum n = true) → (ns.flatMap numB).length ≤ 12 * ns.length
  | [], _ => by simp
  | n :: ns, h => by
    have h1 := itoa_len (h n (by simp))
    have h2 := nums_len (ns := ns) (fun m hm => h m (by simp [hm]))
    simp [numB] at *
    omega
theorem take_flat {α : Type} (f : α → List UInt8) (l : List α) (k : Nat) (x : α) (h : l[k]? = some x) : (l.take (k + 1)).flatMap f = (l.take k).flatMap f ++ f x := by
  obtain ⟨hk, rfl⟩ := List.getElem?_eq_some_iff.1 h
  rw [List.take_succ_eq_append_getElem hk, List.flatMap_append]
  simp
theorem flat_mono {α : Type} (f : α → List UInt8) (l : List α) (k : Nat) : ((l.take k).flatMap f).length ≤ (l.flatMap f).length := by
  conv => rhs; rw [← List.take_append_drop k l, List.flatMap_append, List.length_append]
  omega

theorem trow_bytes {w : World} {s : ByteArray} {A : Nat} (hA : A ≤ w.heap.size) (hs : s.size ≤ 100000000) : TRow (Lib.bytesWorld w 5 s) A (.slice (some ⟨w.heap.size, 0, none⟩) s.size (grownCap w s.size 0 5)) (Lib.strCells s) := by
  have hge := grownCap_ge w s.size 0 5
  have hsz : (Lib.bytesCells w 5 s).size = grownCap w s.size 0 5 := by
    unfold Lib.bytesCells
    rw [Array.size_append, Array.size_map, Array.size_replicate]
    show s.size + _ = _
    omega
  refine ⟨w.heap.size, _, _, _, by rw [Lib.strCells_length], hA, Lib.bytesWorld_at_new w 5 s, fun j hj h => ?_, by rw [Lib.strCells_length]; exact hge, grownCap_le_maxLen w s.size 0 5 (by unfold maxLen; omega), hsz, ?_⟩
  · rw [hsz] at h
    simp only at h
    omega
  · unfold Lib.bytesCells
    rw [Lib.strCells_length, Array.toList_append, List.take_append_of_le_length (by simp)]
    simp [Lib.strCells]
    exact List.take_of_length_le (by simp)
theorem TRow.keep {w w' : World} {A : Nat} {v : Value} {xs : List Value} (h : TRow w A v xs) (hk : ∀ k, k < w.heap.size → w'.heap[k]? = w.heap[k]?) : TRow w' A v xs := by
  obtain ⟨g, cap, cur, fz, hv, hA, hg, r⟩ := h
  exact ⟨g, cap, cur, fz, hv, hA, (hk g (heap_lt hg)).trans hg, r⟩
theorem TRow.base {w : World} {A : Nat} {v : Value} {xs : List Value} (h : TRow w A v xs) : ∀ k, v.ownBlock = some k → A ≤ k := by
  obtain ⟨g, cap, cur, fz, rfl, hA, _⟩ := h
  intro k hk
  simp [Value.ownBlock] at hk
  omega
theorem wpList_mark_str {ops : Array Oper} {rest : List Oper} {o : Oper} {a : Act} {w : World} {Q : Exit → Act → World → Prop} (hgd : o.guard = none) (sl x : Operand)
    (ho : o.op = .call { callee := .builtin .append, args := #[sl, x], argTypes := #[49, 9] }) {A : Nat} {v : Value} {xs : List Value} (hs : a.eval sl = v) (hown : TRow w A v xs) (s : ByteArray) (hx : a.eval x = .string s)
    (hA : A ≤ w.heap.size) (hb : xs.length + s.size ≤ 100000000)
    (h : ∀ v' w', TRow w' A v' (xs ++ Lib.strCells s) → w.grownBy w' v.ownBlock → wpList Tryz.prog ops Q rest (a.put o.dst v') w') : wpList Tryz.prog ops Q (o :: rest) a w := by
  refine wpList_plain hgd fun K hK => ?_
  obtain ⟨v', w', hr, h2, h3⟩ := append_mark_str hown hA s hb o.type
  unfold Oper.wp execOp
  simp only [ho, resolve, invoke, builtin, Sem.run_bind, Sem.run_pure, Result.andThen_ok, List.map_toArray, List.map_cons, List.map_nil, hs, hx, hr]
  exact hK _ _ (h v' w' h2 h3)
theorem wpList_mark_one {ops : Array Oper} {rest : List Oper} {o : Oper} {a : Act} {w : World} {Q : Exit → Act → World → Prop} (hgd : o.guard = none) (sl x : Operand)
    (ho : o.op = .call { callee := .builtin .append, args := #[sl, x], argTypes := #[49, 49] }) {A : Nat} {v : Value} {xs : List Value} (hs : a.eval sl = v) (hown : TRow w A v xs) (ad : Addr) (c : Int) (hx : a.eval x = .slice (some ad) 1 1)
    (hc : w.cell? (ad.add 0) = some (.int .u8 c)) (hA : A ≤ w.heap.size) (hb : xs.length ≤ 100000000)
    (h : ∀ v' w', TRow w' A v' (xs ++ [.int .u8 c]) → w.grownBy w' v.ownBlock → wpList Tryz.prog ops Q rest (a.put o.dst v') w') : wpList Tryz.prog ops Q (o :: rest) a w := by
  refine wpList_plain hgd fun K hK => ?_
  obtain ⟨v', w', hr, h2, h3⟩ := append_mark_one hown hA ad c hc hb o.type
  unfold Oper.wp execOp
  simp only [ho, resolve, invoke, builtin, Sem.run_bind, Sem.run_pure, Result.andThen_ok, List.map_toArray, List.map_cons, List.map_nil, hs, hx, hr]
  exact hK _ _ (h v' w' h2 h3)
end Go.Proofs.YtjbagjmjbfiddaaGreatDoor
