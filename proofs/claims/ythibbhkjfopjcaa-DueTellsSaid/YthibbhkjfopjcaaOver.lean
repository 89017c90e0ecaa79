/-
  A slice of its own is written over, and one more put behind: what lay ahead of it stays.
-/
import Derived.Test.YthibbhkjfopjcaaRefs
import Derived.Laws.OwnMore
namespace Go.Proofs.Ythibbhkjfopjcaa
open Go.ChangeShapes Go.WideShapes Go.ChangeAt Go.RowKit Go.Lib

theorem cell_last {w : World} {x : Value} {t : TypeId} : (w.alloc (.cells #[x] t)).cell? (Addr.add ⟨w.heap.size, 0, none⟩ 0) = some x := by
  have h := heap_new (w := w) (o := .cells #[x] t) (g := w.heap.size) rfl
  show (w.alloc (.cells #[x] t)).cell? ⟨w.heap.size, 0, none⟩ = some x
  unfold World.cell?
  simp only [h]
  rfl
set_option maxRecDepth 100000 in
theorem over_any (B n : Nat) (hn : n ≤ 1000000) (v : Value) (xs : List Int) (w : World) (hB : B ≤ w.heap.size) (ho : w.ownsRow B 3 1 v n (xs.map (Value.int .i64))) :
    Calls Try.prog 13 #[v] w fun e w' => e = .returned (.tuple #[]) ∧ RowKit.Below B w w' := by
  obtain ⟨i0, hi, hz0, hz1, hz2⟩ := info_parts info3
  rcases Joins.ownsRow_forms ho with ⟨rfl, rfl⟩ | ⟨g, c, rfl⟩
  · have HO := Lib.hid ho
    clear ho
    go_enter Try.func13, Try.ntmps13
    go_wp2_with fail
    refine wp_loop_rounds 1 ?_
    rw [rounds_succ]
    go_wp2_with fail
    go_end0
    refine ⟨rfl, ?_⟩
    have h0 := ((RowKit.Below.refl B w).alloc hB (.cells #[.int .i64 (-999)] 3)).alloc (show B ≤ (w.alloc (.cells #[.int .i64 (-999)] 3)).heap.size by simp; omega)
    have h1 := h0 (.cells (#[.int .i64 (-999)] ++ Builtin.zeroCells #[.int .i64 0] ((Question.appendCap 1 0 3).cut (w.tape w.drawn (Question.appendCap 1 0 3)) - 1)) 3)
    exact ⟨h1.os, h1.tape, h1.output, h1.size, h1.block⟩
  · have HO := Lib.hid ho
    clear ho
    go_enter Try.func13, Try.ntmps13
    go_wp2_with fail
    go_loopw [2] (fun i wr => ∃ k : Nat, k ≤ n ∧ i = .int .i64 (k : Int) ∧ (∃ ys : List Int, wr.ownsRow B 3 1 (.slice (some ⟨g, 0, none⟩) n c) n (ys.map (Value.int .i64))) ∧ RowKit.Below B w wr) (fun i _ => n - (intOf i).toNat)
    case atStart => exact ⟨0, Nat.zero_le _, rfl, ⟨xs, HO.out⟩, RowKit.Below.refl _ _⟩
    case round =>
      obtain ⟨k, hk, rfl, ⟨ys, hys⟩, hb⟩ := hrel
      have HY := Lib.hid hys
      have HB := Lib.hid hb
      clear hys hb
      by_cases hlt : k < n
      · have hyl : ys.length = n := by have := HY.out.1; simpa using this
        have cell := HY.out.cellAt k (by omega)
        have frz := HY.out.frozenAt k
        rw [List.getElem?_map, List.getElem?_eq_getElem (by omega)] at cell
        simp only [Option.map_some] at cell
        have i0 : (0 : Int) ≤ (k : Int) := by omega
        have i1 : (k : Int) < (n : Int) := by omega
        go_wp2_with fail
        go_roundw
        case rel =>
          refine ⟨k + 1, by omega, by go_num, ⟨ys.set k (-999), ?_⟩, HB.out.setCell (p := ⟨g, k, none⟩) (by have := (HY.out.lt g rfl).1; exact this) _⟩
          rw [List.map_set]
          exact (HY.out.stored k _).1
        case measure => simp [intOf]; omega
      · obtain rfl : k = n := by omega
        have hz := HB.out.size
        go_wp2_with (at_builtin; refine wpList_append_own _ rfl (.tmp 12) (.tmp 13) 24 rfl B 3 i0 (.int .i64 0) 1 8 Try.underlying24 hi hz0 hz1 hz2 rfl (by decide) _ _ _ rfl (HY.out.alloc _) ⟨wr.heap.size, 0, none⟩ 1 1 [.int .i64 (-999)] rfl rfl ?c1 ?c2 ?c3 ?c4 ?c5 ?_)
        case c1 =>
          intro j u hj
          match j, hj with
          | 0, hj => simp at hj; subst hj; exact cell_last
        case c2 => intro u hu; simp at hu; subst hu; rfl
        case c3 => unfold maxLen; omega
        case c4 => omega
        case c5 => simp; omega
        intro v' w1 hown1 hgrow _
        have h1 := (HB.out.alloc (Nat.le_trans hB hz) (.cells #[.int .i64 (-999)] 3)).grown hgrow (by simp; omega) (own_base HY.out)
        have H1 := Lib.hid h1
        clear hown1 hgrow h1
        go_wp2_with fail
        go_end0
        exact ⟨rfl, H1.out⟩
end Go.Proofs.Ythibbhkjfopjcaa
