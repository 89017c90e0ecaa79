/-
  The program's writer: a number.
-/
import Derived.Test.YtoaohoeghlidaaaGreatDoorWriter
import Derived.Lib.ConvBytes
import Derived.Deep.DeepAppendRoom
namespace Go.Proofs.YtoaohoeghlidaaaGreatDoor
open Go.ChangeShapes Go.WideShapes Go.ChangeAt Go.RowKit

theorem info5 : (Tryz.prog.info? 5).map (fun i => (i.zero, i.size, i.bytes)) = some (some (.int .u8 0), 1, 1) := by kernel_rfl
theorem info_parts {t : TypeId} {z : Option Value} {n m : Nat} (h : (Tryz.prog.info? t).map (fun i => (i.zero, i.size, i.bytes)) = some (z, n, m)) : ∃ i, Tryz.prog.info? t = some i ∧ i.zero = z ∧ i.size = n ∧ i.bytes = m := by
  obtain ⟨i, hi, h2⟩ := Option.map_eq_some_iff.1 h
  simp only [Prod.mk.injEq] at h2
  exact ⟨i, hi, h2.1, h2.2.1, h2.2.2⟩

theorem lit_cells (W : World) (cs : Array Value) (t : TypeId) : ∀ j u, cs.toList[j]? = some u → (W.alloc (.cells cs t)).cell? ((⟨W.heap.size, 0, none⟩ : Addr).add j) = some u := by
  intro j u hj
  rw [add_at rfl, Lib.cell_of_heap (heap_alloc_new W _)]
  simpa using hj
theorem be_cells (n : Int) : byteCells (be n) = [.int .u8 (n % 4294967296 / 16777216), .int .u8 (n % 4294967296 / 65536 % 256), .int .u8 (n % 4294967296 / 256 % 256), .int .u8 (n % 256)] := by
  have h1 : byteCells (be n) = [.int .u8 (UInt8.ofNat ((n % 4294967296).toNat / 16777216)).toNat, .int .u8 (UInt8.ofNat ((n % 4294967296).toNat / 65536)).toNat, .int .u8 (UInt8.ofNat ((n % 4294967296).toNat / 256)).toNat, .int .u8 (UInt8.ofNat (n % 4294967296).toNat).toNat] := rfl
  rw [h1]
  simp only [UInt8.toNat_ofNat', List.cons.injEq, Value.int.injEq, true_and, and_true]
  omega
theorem byteCells_len (bs : List UInt8) : (byteCells bs).length = bs.length := List.length_map _
theorem byteCells_app (a b : List UInt8) : byteCells (a ++ b) = byteCells a ++ byteCells b := List.map_append
theorem cells_set1 {w : World} {b : Nat} {x y : Value} {t : TypeId} {v : Value} (h : w.heap[b]? = some (.cells #[x, y] t (0, 0))) : (w.setCell ⟨b, 1, none⟩ v).heap[b]? = some (.cells #[x, v] t (0, 0)) := by
  simp [World.setCell, Array.getElem?_modify, h]
theorem cells_set0 {w : World} {b : Nat} {x y : Value} {t : TypeId} {v : Value} (h : w.heap[b]? = some (.cells #[x, y] t (0, 0))) : (w.setCell ⟨b, 0, none⟩ v).heap[b]? = some (.cells #[v, y] t (0, 0)) := by
  simp [World.setCell, Array.getElem?_modify, h]
theorem setCell_other (w : World) (b o : Nat) (v : Value) (k : Nat) (h : b ≠ k) : (w.setCell ⟨b, o, none⟩ v).heap[k]? = w.heap[k]? := by
  simp [World.setCell, Array.getElem?_modify, h]
theorem own_block {w : World} {base : Nat} {e : TypeId} {v : Value} {n : Nat} {xs : List Value} (h : w.ownsRow base e 1 v n xs) {b : Nat} {cs : Array Value} {t : TypeId} {fz : Nat × Nat} (hb : w.heap[b]? = some (.cells cs t fz)) (ht : t ≠ e) : v.ownBlock ≠ some b := by
  rcases h.2 with ⟨hv, _⟩ | ⟨g, cap, cur, hv, _, hg, _⟩
  · rw [hv]; intro h; cases h
  · rw [hv]
    intro h
    simp [Value.ownBlock] at h
    subst h
    rw [hb] at hg
    cases hg
    exact ht rfl
theorem own_set {w : World} {base : Nat} {e : TypeId} {v : Value} {n : Nat} {xs : List Value} (h : w.ownsRow base e 1 v n xs) {b o : Nat} {cs : Array Value} {t : TypeId} {fz : Nat × Nat} (hb : w.heap[b]? = some (.cells cs t fz)) (ht : t ≠ e) (u : Value) : (w.setCell ⟨b, o, none⟩ u).ownsRow base e 1 v n xs :=
  h.kept (row := some b) ⟨rfl, rfl, rfl, by simp [World.setCell], fun _ _ hne => setCell_other _ _ _ _ _ (fun e => hne (by rw [e]))⟩ (.inr (own_block h hb ht))
/-- a writer's flag is set -/
theorem WAt.fill {W : World} {B b : Nat} {s : Wst} (h : WAt W B b s) : WAt (W.setCell ⟨b, 1, none⟩ (.bool true)) B b ⟨s.bs, true⟩ ∧ Fr 64 5 B W (W.setCell ⟨b, 1, none⟩ (.bool true)) := by
  obtain ⟨h1, v, h2, h3⟩ := h
  exact ⟨⟨h1, v, cells_set1 h2, own_set h3 h2 (by decide) _⟩, (Fr.refl _ _ _ _).set h1 h2 (.inl rfl) _⟩
/-- a writer's bytes are replaced by longer ones -/
theorem WAt.more {W W1 : World} {B b : Nat} {s : Wst} {bs : List UInt8} {v v1 : Value} (hB : B ≤ W.heap.size) (hb : B ≤ b) (h2 : W.heap[b]? = some (.cells #[v, .bool s.full] 64 (0, 0))) (h3 : W.ownsRow B 5 1 v s.bs.length (byteCells s.bs))
    (hg : W.grownBy W1 v.ownBlock) (ho : W1.ownsRow B 5 1 v1 bs.length (byteCells bs)) : WAt (W1.setCell ⟨b, 0, none⟩ v1) B b ⟨bs, s.full⟩ ∧ Fr 64 5 B W (W1.setCell ⟨b, 0, none⟩ v1) := by
  have hb1 : W1.heap[b]? = some (.cells #[v, .bool s.full] 64 (0, 0)) := (hg.block b (heap_lt h2) (Ne.symm (own_block h3 h2 (by decide)))).trans h2
  exact ⟨⟨hb, v1, cells_set0 hb1, own_set ho hb1 (by decide) _⟩, ((Fr.refl 64 5 B W).grown hB hg h3 (.inr rfl)).set hb hb1 (.inl rfl) _⟩
theorem WAt.alloc {W : World} {B b : Nat} {s : Wst} (h : WAt W B b s) (o : Obj) : WAt (W.alloc o) B b s := by
  obtain ⟨h1, v, h2, h3⟩ := h
  exact ⟨h1, v, (Below.heap_alloc _ _ _ (heap_lt h2)).trans h2, h3.alloc o⟩

set_option maxHeartbeats 800000 in
set_option maxRecDepth 100000 in
theorem number_any (n : Int) (B b : Nat) (s : Wst) (hs : s.bs.length + 4 ≤ 100000000000000) (W : World) (hB : B ≤ W.heap.size) (h : WAt W B b s) :
    Calls Tryz.prog 67 #[.pointer (some ⟨b, 0, none⟩), .int .i64 n] W fun e W' => e = .returned (.tuple #[]) ∧ WAt W' B b (wNum n s) ∧ Fr 64 5 B W W' := by
  obtain ⟨c1, f0, f1⟩ := h.cells
  by_cases hhi : n < -2147483648 ∨ 2147483647 < n
  · have hw : wNum n s = ⟨s.bs, true⟩ := by unfold wNum; rw [if_pos hhi]
    rw [hw]
    have HX := Lib.hid h.fill
    clear hw h
    by_cases hlo : n < -2147483648
    · have d0 : decide (n < -2147483648) = true := decide_eq_true hlo
      clear hhi hlo
      go_enter Tryz.func67, Tryz.ntmps67
      go_wp2_with fail
      go_returns
      exact ⟨rfl, HX.out⟩
    · have d0 : decide (n < -2147483648) = false := decide_eq_false hlo
      have d1 : decide (2147483647 < n) = true := decide_eq_true (by omega)
      clear hhi hlo
      go_enter Tryz.func67, Tryz.ntmps67
      go_wp2_with fail
      go_returns
      exact ⟨rfl, HX.out⟩
  · have hw : wNum n s = ⟨s.bs ++ be n, s.full⟩ := by unfold wNum; rw [if_neg hhi]
    rw [hw]
    obtain ⟨i00, hi, hz0, hz1, hz2⟩ := info_parts info5
    obtain ⟨hBb, v, hbox, hown⟩ := h
    have c0 : W.cell? ⟨b, 0, none⟩ = some v := by rw [Lib.cell_of_heap hbox]; rfl
    have HX := Lib.hid hbox
    have HO := Lib.hid hown
    have d0 : decide (n < -2147483648) = false := decide_eq_false (by omega)
    have d1 : decide (2147483647 < n) = false := decide_eq_false (by omega)
    clear hw hbox hown hhi
    go_enter Tryz.func67, Tryz.ntmps67
    go_wp2_with ((at_builtin; refine wpList_append_own _ rfl (.tmp 20) (.tmp 32) 32 rfl B 5 i00 (.int .u8 0) 1 1 Tryz.underlying32 hi hz0 hz1 hz2 rfl (by decide) v s.bs.length _ rfl (HO.out.alloc _) ⟨W.heap.size, 0, none⟩ 4 4 (byteCells (be n)) rfl (by rw [byteCells_len, be_len]) ?c1 ?c2 ?c3 ?c4 ?c5 ?_))
    case c1 =>
      rw [be_cells]
      exact lit_cells W #[.int .u8 (n % 4294967296 / 16777216), .int .u8 (n % 4294967296 / 65536 % 256), .int .u8 (n % 4294967296 / 256 % 256), .int .u8 (n % 256)] 5
    case c2 => intro u hu; rw [be_cells] at hu; simp at hu; rcases hu with rfl | rfl | rfl | rfl <;> rfl
    case c3 => unfold maxLen; omega
    case c4 => omega
    case c5 => simp; omega
    intro v1 W1 hown1 hgrow1 _
    obtain ⟨g1, cap1, rfl⟩ := Joins.ownsRow_form hown1 (by omega)
    have HS := Lib.hid (show s.bs.length + 4 = (s.bs ++ be n).length by rw [List.length_append, be_len])
    rw [← byteCells_app] at hown1
    have HW := Lib.hid (WAt.more (s := s) (bs := s.bs ++ be n) (by simp; omega) hBb ((Below.heap_alloc _ _ _ (heap_lt HX.out)).trans HX.out) (HO.out.alloc _) hgrow1 (by rw [← HS.out]; exact hown1))
    have HF := Lib.hid (((Fr.refl 64 5 B W).alloc hB (.cells #[.int .u8 (n % 4294967296 / 16777216), .int .u8 (n % 4294967296 / 65536 % 256), .int .u8 (n % 4294967296 / 256 % 256), .int .u8 (n % 256)] 5)).trans HW.out.2)
    have hb1 := (hgrow1.block b (by have := heap_lt HX.out; simp; omega) (Ne.symm (own_block HO.out HX.out (by decide)))).trans ((Below.heap_alloc _ _ _ (heap_lt HX.out)).trans HX.out)
    clear hown1 hgrow1 c0 c1 f0 f1
    have c0 : W1.cell? ⟨b, 0, none⟩ = some v := by rw [Lib.cell_of_heap hb1]; rfl
    have f0 := Lib.frozen_of_heap hb1 0
    clear hb1
    go_wp2_with fail
    go_returns
    exact ⟨rfl, HW.out.1, HF.out⟩
end Go.Proofs.YtoaohoeghlidaaaGreatDoor
