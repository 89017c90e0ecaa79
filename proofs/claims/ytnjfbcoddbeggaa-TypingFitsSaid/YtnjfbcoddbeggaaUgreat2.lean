/-
  How great a unit is.
-/
import Derived.Test.YtnjfbcoddbeggaaUgreat
import Derived.Laws.Tables
namespace Go.Proofs.Ytnjfbcoddbeggaa
open Go Go.ChangeShapes Go.WideShapes Go.ChangeAt Go.RowKit

/-! ### structs of many cells, at once -/
section
variable {P : Program} {ops : Array Oper}
theorem run_loadVar_at (w : World) (b o : Nat) (ty : TypeId) (vs : List Value) (d : TypeDesc) (hc : CellsAt w b o vs)
    (hu : P.underlying ty = some d) (hd : (match d with | .struct _ | .array _ _ => true | _ => false) = true) (hi : (P.info? ty).map (·.size) = some vs.length) :
    (loadVar ty ⟨b, o, none⟩).run P w = .ok (.agg vs.toArray) w := by
  have hl : (loadCells ⟨b, o, none⟩ vs.length).run P w = .ok vs.toArray w :=
    run_loadCells_list (P := P) w ⟨b, o, none⟩ vs (fun j v hv => by rw [add_at rfl]; exact hc j v hv)
  cases hq : P.info? ty with
  | none => simp [hq] at hi
  | some i =>
    have hs : i.size = vs.length := by simpa [hq] using hi
    have hagg : (isAgg ty).run P w = .ok true w := by
      unfold isAgg
      rw [Sem.run_bind, run_underlying hu w]
      cases d <;> simp_all
    simp [loadVar, Sem.run_bind, hagg, sizeOf, typeInfo, hq, hs, hl]
theorem wp_load_at {o : Oper} {a : Act} {w : World} {K : Act → World → Prop} {Q : Exit → Act → World → Prop} (ty : TypeId) (x : Operand) (ho : o.op = .load ty x)
    (b k : Nat) (hx : a.eval x = .pointer (some ⟨b, k, none⟩)) (vs : List Value) (d : TypeDesc) (hc : CellsAt w b k vs)
    (hu : P.underlying ty = some d) (hd : (match d with | .struct _ | .array _ _ => true | _ => false) = true) (hi : (P.info? ty).map (·.size) = some vs.length)
    (h : K (a.put o.dst (.agg vs.toArray)) w) : o.wp P a w K Q := by
  unfold Oper.wp execOp
  simp only [ho, hx, Instr.loadAt, Instr.sureAddr, Sem.run_bind, Sem.run_pure, Result.andThen_ok, run_loadVar_at w b k ty vs d hc hu hd hi]
  exact h
theorem wpList_load_at {rest : List Oper} {o : Oper} {a : Act} {w : World} {Q : Exit → Act → World → Prop} (hgd : o.guard = none) (ty : TypeId) (x : Operand) (ho : o.op = .load ty x)
    (b k : Nat) (hx : a.eval x = .pointer (some ⟨b, k, none⟩)) (vs : List Value) (d : TypeDesc) (hc : CellsAt w b k vs)
    (hu : P.underlying ty = some d) (hd : (match d with | .struct _ | .array _ _ => true | _ => false) = true) (hi : (P.info? ty).map (·.size) = some vs.length)
    (h : wpList P ops Q rest (a.put o.dst (.agg vs.toArray)) w) : wpList P ops Q (o :: rest) a w :=
  wpList_plain hgd fun _ hK => wp_load_at ty x ho b k hx vs d hc hu hd hi (hK _ _ h)
end
theorem boxT_is (V : World) (z cs : Array Value) (t : TypeId) : ((V.alloc (.cells z t)).setRow V.heap.size cs).heap[V.heap.size]? = some (.cells cs t (0, 0)) := by
  have h := heap_alloc_new V (.cells z t)
  simp only [World.setRow, Array.getElem?_modify, h, if_true, Option.map_some]
theorem boxT_keep (V : World) (z cs : Array Value) (t : TypeId) (k : Nat) (hk : k < V.heap.size) : ((V.alloc (.cells z t)).setRow V.heap.size cs).heap[k]? = V.heap[k]? := by
  have h := Below.heap_alloc V (.cells z t) k hk
  rw [← h]
  simp [World.setRow, Array.getElem?_modify, show ¬ V.heap.size = k by omega]
theorem rowT_below {B : Nat} {W V : World} (h : Below B W V) {q : Nat} (hq : B ≤ q) (cs : Array Value) : Below B W (V.setRow q cs) :=
  ⟨h.os, h.tape, h.output, by simpa [World.setRow] using h.size, fun k hk => by
    rw [← h.block k hk]
    simp [World.setRow, Array.getElem?_modify, show ¬ q = k by omega]⟩
theorem boxT_below {B : Nat} {W V : World} (h : Below B W V) (hB : B ≤ V.heap.size) (z cs : Array Value) (t : TypeId) : Below B W ((V.alloc (.cells z t)).setRow V.heap.size cs) := rowT_below (h.alloc hB _) hB cs
theorem boxT_size (V : World) (z cs : Array Value) (t : TypeId) : ((V.alloc (.cells z t)).setRow V.heap.size cs).heap.size = V.heap.size + 1 := by simp [World.setRow]
theorem heap_lt {w : World} {g : Nat} {O : Obj} (h : w.heap[g]? = some O) : g < w.heap.size := by
  rcases Nat.lt_or_ge g w.heap.size with h' | h'
  · exact h'
  · simp [Array.getElem?_eq_none h'] at h
theorem below_drew {B : Nat} {a w : World} (h : Below B a w) (n : Nat) : Below B a (w.drewN n) := ⟨h.os, h.tape, h.output, h.size, h.block⟩
theorem row_two {T : Type} {sh : Sh T} {lim B : Nat} {W w1 w2 : World} {a : Option Addr} {l : Nat} {xs : List T} (h : Row sh (fun k => k < lim) w1 a l xs) (h1 : Below B W w1) (h2 : Below B W w2) (hl : lim ≤ B) : Row sh (fun k => k < lim) w2 a l xs :=
  h.keep (fun k hk => (h2.block k (by omega)).trans (h1.block k (by omega)).symm)
theorem size47 : (Try.prog.info? 47).map (·.size) = some 11 := by kernel_rfl
theorem size66 : (Try.prog.info? 66).map (·.size) = some 11 := by kernel_rfl

def Few (ds : List DeclU) : Prop := ∀ (i : Nat) (x : DeclU), ds[i]? = some x → x.faces.length ≤ 8 ∧ x.name.size ≤ 60
theorem goT_few {L m g : Int} : ∀ {xs : List ByteArray}, goT L m g xs = false → L ≤ m := by
  intro xs h
  cases xs with
  | nil => unfold goT at h; have := of_decide_eq_false h; omega
  | cons x xs =>
    unfold goT at h
    split at h
    · assumption
    · have := of_decide_eq_false h; omega
/-- some truth; if it is not, there are few -/
inductive GPost (ds : List DeclU) (l : Nat) (W W' : World) (e : Ending) : Prop
  | mk (β : Bool) (h1 : e = .returned (.bool β)) (h2 : β = false → l ≤ 16 ∧ Few ds) (h3 : Below W.heap.size W W') : GPost ds l W W' e
set_option maxHeartbeats 6400000 in
set_option maxRecDepth 100000 in
theorem great_any (lim : Nat) (W : World) (a : Option Addr) (l c : Nat) (m : Int) (ds : List DeclU) (hr : Row shDecl (fun k => k < lim) W a l ds) (hl : lim ≤ W.heap.size) :
    Calls Try.prog 11 #[.agg #[.slice a l c], .int .i64 m] W fun e W' => GPost ds l W W' e := by
  have HR := Lib.hid hr
  have HL := Lib.hid hl
  have hml : l ≤ 9223372036854775807 := by have := hr.le; unfold maxLen at this; omega
  have HB0 := Lib.hid ((Below.refl W.heap.size W).alloc (Nat.le_refl _) (.cells #[.slice a l c] 24))
  have HX0 := Lib.hid (show (W.alloc (.cells #[.slice a l c] 24)).heap[W.heap.size]? = some (.cells #[.slice a l c] 24 (0, 0)) from heap_alloc_new W _)
  clear hr hl
  cases h16 : decide ((l : Int) ≤ 16) with
  | false =>
    have h17 : decide ((16 : Int) < (l : Int)) = true := decide_eq_true (by have := of_decide_eq_false h16; omega)
    have hpos : (0 : Int) < (l : Int) := by have := of_decide_eq_false h16; omega
    cases hm0 : decide (m < 0) with
    | true =>
      go_enter Try.func11, Try.ntmps11
      go_wp2_with fail
      go_loopw [5, 6] (fun n i wr => n = .int .i64 0 ∧ i = .int .i64 0 ∧ wr = W.alloc (.cells #[.slice a l c] 24)) (fun _ _ _ => 0)
      case atStart => exact ⟨rfl, rfl, rfl⟩
      case round =>
        obtain ⟨rfl, rfl, rfl⟩ := hrel
        go_wp2_with fail
        go_returns
        exact ⟨_, rfl, fun h => (by simp at h), HB0.out⟩
    | false =>
      go_enter Try.func11, Try.ntmps11
      go_wp2_with fail
      go_loopw [5, 6] (fun n i wr => n = .int .i64 0 ∧ i = .int .i64 0 ∧ wr = W.alloc (.cells #[.slice a l c] 24)) (fun _ _ _ => 0)
      case atStart => exact ⟨rfl, rfl, rfl⟩
      case round =>
        obtain ⟨rfl, rfl, rfl⟩ := hrel
        go_wp2_with fail
        go_returns
        exact ⟨_, rfl, fun h => (by simp at h), HB0.out⟩
  | true =>
  have hl16 := of_decide_eq_true h16
  have h17 : decide ((16 : Int) < (l : Int)) = false := decide_eq_false (by omega)
  have HL16 := Lib.hid (show l ≤ 16 by omega)
  clear hl16
  go_enter Try.func11, Try.ntmps11
  go_wp2_with fail
  go_loopw [5, 6] (fun n i wr => ∃ (k : Nat) (N : Int), k ≤ l ∧ n = .int .i64 N ∧ i = .int .i64 k ∧ (∀ (j : Nat) (y : DeclU), j < k → ds[j]? = some y → y.faces.length ≤ 8 ∧ y.name.size ≤ 60) ∧ wr.heap[W.heap.size]? = some (.cells #[.slice a l c] 24 (0, 0)) ∧ Below W.heap.size W wr) (fun _ i _ => l - (intOf i).toNat)
  case atStart => exact ⟨0, 0, Nat.zero_le _, rfl, rfl, fun j y hj => by omega, HX0.out, HB0.out⟩
  case round =>
    clear HX0 HB0
    obtain ⟨k, N, hk, rfl, rfl, hF, hX, hB⟩ := hrel
    have HF := Lib.hid hF
    clear hF
    have f0 : wr.cell? ⟨W.heap.size, 0, none⟩ = some (.slice a l c) := by rw [Lib.cell_of_heap hX]; rfl
    have HX := Lib.hid hX
    have HB := Lib.hid hB
    clear hX hB
    by_cases hlt : k < l
    · have i0 : (k : Int) < (l : Int) := by omega
      have i1 : (0 : Int) ≤ (k : Int) := by omega
      cases hN : decide (N ≤ m) with
      | false =>
        have hN2 : decide (m < N) = true := decide_eq_true (by have := of_decide_eq_false hN; omega)
        go_wp2_with fail
        go_returns
        exact ⟨_, rfl, fun h => (by cases h), HB.out⟩
      | true =>
      obtain ⟨b, o, x, vs, rfl, hbl, hx, hc, hI⟩ := (row_lim HR.out (HB.out.mono HL.out)).item hlt
      obtain ⟨a3, l3, c3, a6, l6, c6, a7, l7, c7, d8, a8, l8, c8, rfl, hr3, hr6, hr7, hr8⟩ := decl_is.1 hI
      have HLW := Lib.hid (show W.heap.size < wr.heap.size from heap_lt HX.out)
      have HCA := Lib.hid (show CellsAt wr b (o + k * 11) (#[.int .i64 x.kind, .string x.name, .string x.base, .slice a3 l3 c3, .bool x.abs, .bool x.fin, .slice a6 l6 c6, .slice a7 l7 c7, .slice a8 l8 c8, .int .i64 x.every, .int .i64 x.first]).toList from hc)
      have HK1 := Lib.hid (heap_alloc_new wr (.cells #[.int .i64 0, .string ⟨#[]⟩, .string ⟨#[]⟩, .slice none 0 0, .bool false, .bool false, .slice none 0 0, .slice none 0 0, .slice none 0 0, .int .i64 0, .int .i64 0] 47))
      have HX1 := Lib.hid (boxT_is wr #[.int .i64 0, .string ⟨#[]⟩, .string ⟨#[]⟩, .slice none 0 0, .bool false, .bool false, .slice none 0 0, .slice none 0 0, .slice none 0 0, .int .i64 0, .int .i64 0] #[.int .i64 x.kind, .string x.name, .string x.base, .slice a3 l3 c3, .bool x.abs, .bool x.fin, .slice a6 l6 c6, .slice a7 l7 c7, .slice a8 l8 c8, .int .i64 x.every, .int .i64 x.first] 47)
      have HY1 := Lib.hid ((boxT_keep wr #[.int .i64 0, .string ⟨#[]⟩, .string ⟨#[]⟩, .slice none 0 0, .bool false, .bool false, .slice none 0 0, .slice none 0 0, .slice none 0 0, .int .i64 0, .int .i64 0] #[.int .i64 x.kind, .string x.name, .string x.base, .slice a3 l3 c3, .bool x.abs, .bool x.fin, .slice a6 l6 c6, .slice a7 l7 c7, .slice a8 l8 c8, .int .i64 x.every, .int .i64 x.first] 47 W.heap.size HLW.out).trans HX.out)
      have HB1 := Lib.hid (boxT_below HB.out HB.out.size #[.int .i64 0, .string ⟨#[]⟩, .string ⟨#[]⟩, .slice none 0 0, .bool false, .bool false, .slice none 0 0, .slice none 0 0, .slice none 0 0, .int .i64 0, .int .i64 0] #[.int .i64 x.kind, .string x.name, .string x.base, .slice a3 l3 c3, .bool x.abs, .bool x.fin, .slice a6 l6 c6, .slice a7 l7 c7, .slice a8 l8 c8, .int .i64 x.every, .int .i64 x.first] 47)
      have HS1 := Lib.hid (boxT_size wr #[.int .i64 0, .string ⟨#[]⟩, .string ⟨#[]⟩, .slice none 0 0, .bool false, .bool false, .slice none 0 0, .slice none 0 0, .slice none 0 0, .int .i64 0, .int .i64 0] #[.int .i64 x.kind, .string x.name, .string x.base, .slice a3 l3 c3, .bool x.abs, .bool x.fin, .slice a6 l6 c6, .slice a7 l7 c7, .slice a8 l8 c8, .int .i64 x.every, .int .i64 x.first] 47)
      have h3 := row_lim hr3 (show Below lim wr ((wr.alloc (.cells #[.int .i64 0, .string ⟨#[]⟩, .string ⟨#[]⟩, .slice none 0 0, .bool false, .bool false, .slice none 0 0, .slice none 0 0, .slice none 0 0, .int .i64 0, .int .i64 0] 47)).setRow wr.heap.size #[.int .i64 x.kind, .string x.name, .string x.base, .slice a3 l3 c3, .bool x.abs, .bool x.fin, .slice a6 l6 c6, .slice a7 l7 c7, .slice a8 l8 c8, .int .i64 x.every, .int .i64 x.first]) from boxT_below (Below.refl lim wr) (Nat.le_trans HL.out HB.out.size) _ _ _)
      have HR6 := Lib.hid hr6
      have HR7 := Lib.hid hr7
      have HR8 := Lib.hid hr8
      have hone : (#[.int .i64 x.kind, .string x.name, .string x.base, .slice a3 l3 c3, .bool x.abs, .bool x.fin, .slice a6 l6 c6, .slice a7 l7 c7, .slice a8 l8 c8, .int .i64 x.every, .int .i64 x.first] : Array Value).all (·.oneCell') = true := by simp [Value.oneCell']
      have HXD := Lib.hid hx
      have HFL := Lib.hid hr3.1
      clear hx hc hI hr3 hr6 hr7 hr8 hbl
      go_upto_region 6 with (first | (refine wpList_load_at rfl 47 (.tmp 31) rfl b (o + k * 11) rfl (#[.int .i64 x.kind, .string x.name, .string x.base, .slice a3 l3 c3, .bool x.abs, .bool x.fin, .slice a6 l6 c6, .slice a7 l7 c7, .slice a8 l8 c8, .int .i64 x.every, .int .i64 x.first]).toList _ HCA.out Try.underlying47 rfl size47 ?_) | (refine wpList_store_row rfl 47 (.tmp 7) (.tmp 32) rfl wr.heap.size #[.int .i64 x.kind, .string x.name, .string x.base, .slice a3 l3 c3, .bool x.abs, .bool x.fin, .slice a6 l6 c6, .slice a7 l7 c7, .slice a8 l8 c8, .int .i64 x.every, .int .i64 x.first] rfl rfl 47 #[.int .i64 0, .string ⟨#[]⟩, .string ⟨#[]⟩, .slice none 0 0, .bool false, .bool false, .slice none 0 0, .slice none 0 0, .slice none 0 0, .int .i64 0, .int .i64 0] HK1.out size47 rfl hone ?_))
      clear hone HCA HK1
      have hz1 := HS1.out
      have HR6 := Lib.hid (row_lim HR6.out (show Below lim wr ((wr.alloc (.cells #[.int .i64 0, .string ⟨#[]⟩, .string ⟨#[]⟩, .slice none 0 0, .bool false, .bool false, .slice none 0 0, .slice none 0 0, .slice none 0 0, .int .i64 0, .int .i64 0] 47)).setRow wr.heap.size #[.int .i64 x.kind, .string x.name, .string x.base, .slice a3 l3 c3, .bool x.abs, .bool x.fin, .slice a6 l6 c6, .slice a7 l7 c7, .slice a8 l8 c8, .int .i64 x.every, .int .i64 x.first]) from boxT_below (Below.refl lim wr) (Nat.le_trans HL.out HB.out.size) _ _ _))
      have HR7 := Lib.hid (row_lim HR7.out (show Below lim wr ((wr.alloc (.cells #[.int .i64 0, .string ⟨#[]⟩, .string ⟨#[]⟩, .slice none 0 0, .bool false, .bool false, .slice none 0 0, .slice none 0 0, .slice none 0 0, .int .i64 0, .int .i64 0] 47)).setRow wr.heap.size #[.int .i64 x.kind, .string x.name, .string x.base, .slice a3 l3 c3, .bool x.abs, .bool x.fin, .slice a6 l6 c6, .slice a7 l7 c7, .slice a8 l8 c8, .int .i64 x.every, .int .i64 x.first]) from boxT_below (Below.refl lim wr) (Nat.le_trans HL.out HB.out.size) _ _ _))
      have HR8 := Lib.hid (row_lim HR8.out (show Below lim wr ((wr.alloc (.cells #[.int .i64 0, .string ⟨#[]⟩, .string ⟨#[]⟩, .slice none 0 0, .bool false, .bool false, .slice none 0 0, .slice none 0 0, .slice none 0 0, .int .i64 0, .int .i64 0] 47)).setRow wr.heap.size #[.int .i64 x.kind, .string x.name, .string x.base, .slice a3 l3 c3, .bool x.abs, .bool x.fin, .slice a6 l6 c6, .slice a7 l7 c7, .slice a8 l8 c8, .int .i64 x.every, .int .i64 x.first]) from boxT_below (Below.refl lim wr) (Nat.le_trans HL.out HB.out.size) _ _ _))
      generalize hV1 : ((wr.alloc (.cells #[.int .i64 0, .string ⟨#[]⟩, .string ⟨#[]⟩, .slice none 0 0, .bool false, .bool false, .slice none 0 0, .slice none 0 0, .slice none 0 0, .int .i64 0, .int .i64 0] 47)).setRow wr.heap.size #[.int .i64 x.kind, .string x.name, .string x.base, .slice a3 l3 c3, .bool x.abs, .bool x.fin, .slice a6 l6 c6, .slice a7 l7 c7, .slice a8 l8 c8, .int .i64 x.every, .int .i64 x.first]) = V1 at *
      clear hV1 HS1
      have hgl : lim ≤ wr.heap.size := Nat.le_trans HL.out HB.out.size
      generalize wr.heap.size = g at *
      have HGL := Lib.hid hgl
      have HLWg := Lib.hid HLW.out
      clear HLW hgl
      have h42 := texts_any _ _ a3 l3 c3 8 60 x.faces h3
      clear h3
      have g1 : V1.cell? ⟨g, 1, none⟩ = some (.string x.name) := by rw [Lib.cell_of_heap HX1.out]; rfl
      have g2 : V1.cell? ⟨g, 2, none⟩ = some (.string x.base) := by rw [Lib.cell_of_heap HX1.out]; rfl
      have g3 : V1.cell? ⟨g, 3, none⟩ = some (.slice a3 l3 c3) := by rw [Lib.cell_of_heap HX1.out]; rfl
      cases hs1 : decide ((60 : Int) < (x.name.size : Int)) with
      | true =>
        go_wp2_with fail
        go_returns
        exact ⟨_, rfl, fun h => (by cases h), HB1.out⟩
      | false =>
      cases hs2 : decide ((60 : Int) < (x.base.size : Int)) with
      | true =>
        go_wp2_with fail
        go_returns
        exact ⟨_, rfl, fun h => (by cases h), HB1.out⟩
      | false =>
      cases hg3 : goT l3 8 60 x.faces with
      | true =>
        rw [hg3] at h42
        clear hg3
        go_wp2_with (go_at_call 42; refine h42.mono ?_)
        rintro e V2 ⟨rfl, rfl⟩
        go_wp2_with fail
        go_returns
        exact ⟨_, rfl, fun h => (by cases h), HB1.out⟩
      | false =>
      rw [hg3] at h42
      have HF1 := Lib.hid (show ∀ (j : Nat) (y : DeclU), j < k + 1 → ds[j]? = some y → y.faces.length ≤ 8 ∧ y.name.size ≤ 60 from fun j y hj hy => by
        rcases Nat.lt_succ_iff_lt_or_eq.1 hj with h' | rfl
        · exact HF.out j y h' hy
        · rw [HXD.out] at hy
          cases hy
          have := goT_few hg3
          exact ⟨by rw [HFL.out]; omega, by have := of_decide_eq_false hs1; omega⟩)
      clear hg3
      go_wp2_with (go_at_call 42; refine h42.mono ?_)
      rintro e V9 ⟨rfl, hv9⟩
      rw [hv9]
      clear hv9
      clear g1 g2 g3 h42 hs1 hs2
      go_upto_region 8 with fail
      have g6 : V1.cell? ⟨g, 6, none⟩ = some (.slice a6 l6 c6) := by rw [Lib.cell_of_heap HX1.out]; rfl
      have g8 : V1.cell? ⟨g, 8, none⟩ = some (.slice a8 l8 c8) := by rw [Lib.cell_of_heap HX1.out]; rfl
      have h43 : ∀ n, Calls Try.prog 43 #[.slice a6 l6 c6, .int .i64 m] (V1.drewN n) fun e w' => e = .returned (.int .i64 (goV l6 m x.vars)) ∧ w' = V1.drewN n := fun n => vars_any (fun k => k < lim) _ _ _ _ _ x.vars (Row.keep (W := V1) (W' := V1.drewN n) (fun _ _ => rfl) HR6.out)
      have h44 : ∀ n, Calls Try.prog 44 #[.slice a8 l8 c8, .int .i64 (wrap64 (m - N))] (V1.drewN n) fun e w' => e = .returned (.int .i64 (cntS d8 x.body (wrap64 (m - N)))) ∧ w' = V1.drewN n := fun n => stmts_any (fun k => k < lim) d8 _ _ _ _ _ x.body (Row.keep (W := V1) (W' := V1.drewN n) (fun _ _ => rfl) HR8.out)
      generalize goV l6 m x.vars = q1 at *
      generalize cntS d8 x.body (wrap64 (m - N)) = q2 at *
      go_quiet (first | (go_at_call 43; exact Calls.quiet_of_same (h43 _)) | (go_at_call 44; exact Calls.quiet_of_same (h44 _)))
      clear h43 h44 g6 g8 f0
      have HX3 := Lib.hid (show (V1.drewN nq).heap[g]? = some (.cells #[.int .i64 x.kind, .string x.name, .string x.base, .slice a3 l3 c3, .bool x.abs, .bool x.fin, .slice a6 l6 c6, .slice a7 l7 c7, .slice a8 l8 c8, .int .i64 x.every, .int .i64 x.first] 47 (0, 0)) from HX1.out)
      have HY3 := Lib.hid (show (V1.drewN nq).heap[W.heap.size]? = some (.cells #[.slice (some ⟨b, o, none⟩) l c] 24 (0, 0)) from HY1.out)
      have HB3 := Lib.hid (show Below W.heap.size W (V1.drewN nq) from below_drew HB1.out nq)
      have HR7 := Lib.hid (show Row shMeth (fun k => k < lim) (V1.drewN nq) a7 l7 x.methods from Row.keep (W := V1) (fun _ _ => rfl) HR7.out)
      clear HX1 HY1 HX HB HGL
      generalize V1.drewN nq = V3 at *
      have hm7 : l7 ≤ 9223372036854775807 := by have := HR7.out.le; unfold maxLen at this; omega
      go_wp2_with fail
      go_loopw [5, 8] (fun n i wq => ∃ (j : Nat) (M : Int), j ≤ l7 ∧ n = .int .i64 M ∧ i = .int .i64 j ∧ wq.heap[g]? = some (.cells #[.int .i64 x.kind, .string x.name, .string x.base, .slice a3 l3 c3, .bool x.abs, .bool x.fin, .slice a6 l6 c6, .slice a7 l7 c7, .slice a8 l8 c8, .int .i64 x.every, .int .i64 x.first] 47 (0, 0)) ∧ wq.heap[W.heap.size]? = some (.cells #[.slice (some ⟨b, o, none⟩) l c] 24 (0, 0)) ∧ Below W.heap.size W wq) (fun _ i _ => l7 - (intOf i).toNat)
      case atStart => exact ⟨0, _, Nat.zero_le _, rfl, rfl, HX3.out, HY3.out, HB3.out⟩
      case round =>
        clear HX3 HY3
        obtain ⟨j, M, hj, rfl, rfl, hX, hY, hB⟩ := hrel
        have g7 : wr.cell? ⟨g, 7, none⟩ = some (.slice a7 l7 c7) := by rw [Lib.cell_of_heap hX]; rfl
        have HX := Lib.hid hX
        have HY := Lib.hid hY
        have HB := Lib.hid hB
        clear hX hY hB
        by_cases hjl : j < l7
        · have j0 : (j : Int) < (l7 : Int) := by omega
          have j1 : (0 : Int) ≤ (j : Int) := by omega
          cases hM : decide (M ≤ m) with
          | false =>
            go_wp2_with fail
            exact ⟨⟨k + 1, _, by omega, rfl, by go_num, HF1.out, HY.out, HB.out⟩, by simp [intOf]; omega⟩
          | true =>
          obtain ⟨b7, o7, y, vs7, rfl, _, hy, hc7, hI7⟩ := (row_two HR7.out HB3.out HB.out HL.out).item hjl
          obtain ⟨a4, l4, c4, a9, l9, c9, d10, a10, l10, c10, rfl, hr4, hr9, hr10⟩ := meth_is.1 hI7
          have HLW := Lib.hid (show W.heap.size < wr.heap.size from heap_lt HY.out)
          have HLG := Lib.hid (show g < wr.heap.size from heap_lt HX.out)
          have HCA := Lib.hid (show CellsAt wr b7 (o7 + j * 11) (#[.string y.name, .bool y.over, .bool y.abs, .bool y.fin, .slice a4 l4 c4, .int .i64 y.result.kind, .int .i64 y.result.lo, .int .i64 y.result.hi, .string y.result.name, .slice a9 l9 c9, .slice a10 l10 c10]).toList from hc7)
          have HK1 := Lib.hid (heap_alloc_new wr (.cells #[.string ⟨#[]⟩, .bool false, .bool false, .bool false, .slice none 0 0, .int .i64 0, .int .i64 0, .int .i64 0, .string ⟨#[]⟩, .slice none 0 0, .slice none 0 0] 66))
          have HM1 := Lib.hid (boxT_is wr #[.string ⟨#[]⟩, .bool false, .bool false, .bool false, .slice none 0 0, .int .i64 0, .int .i64 0, .int .i64 0, .string ⟨#[]⟩, .slice none 0 0, .slice none 0 0] #[.string y.name, .bool y.over, .bool y.abs, .bool y.fin, .slice a4 l4 c4, .int .i64 y.result.kind, .int .i64 y.result.lo, .int .i64 y.result.hi, .string y.result.name, .slice a9 l9 c9, .slice a10 l10 c10] 66)
          have HX1 := Lib.hid ((boxT_keep wr #[.string ⟨#[]⟩, .bool false, .bool false, .bool false, .slice none 0 0, .int .i64 0, .int .i64 0, .int .i64 0, .string ⟨#[]⟩, .slice none 0 0, .slice none 0 0] #[.string y.name, .bool y.over, .bool y.abs, .bool y.fin, .slice a4 l4 c4, .int .i64 y.result.kind, .int .i64 y.result.lo, .int .i64 y.result.hi, .string y.result.name, .slice a9 l9 c9, .slice a10 l10 c10] 66 g HLG.out).trans HX.out)
          have HY1 := Lib.hid ((boxT_keep wr #[.string ⟨#[]⟩, .bool false, .bool false, .bool false, .slice none 0 0, .int .i64 0, .int .i64 0, .int .i64 0, .string ⟨#[]⟩, .slice none 0 0, .slice none 0 0] #[.string y.name, .bool y.over, .bool y.abs, .bool y.fin, .slice a4 l4 c4, .int .i64 y.result.kind, .int .i64 y.result.lo, .int .i64 y.result.hi, .string y.result.name, .slice a9 l9 c9, .slice a10 l10 c10] 66 W.heap.size HLW.out).trans HY.out)
          have HB1 := Lib.hid (boxT_below HB.out HB.out.size #[.string ⟨#[]⟩, .bool false, .bool false, .bool false, .slice none 0 0, .int .i64 0, .int .i64 0, .int .i64 0, .string ⟨#[]⟩, .slice none 0 0, .slice none 0 0] #[.string y.name, .bool y.over, .bool y.abs, .bool y.fin, .slice a4 l4 c4, .int .i64 y.result.kind, .int .i64 y.result.lo, .int .i64 y.result.hi, .string y.result.name, .slice a9 l9 c9, .slice a10 l10 c10] 66)
          have hbe : Below lim wr ((wr.alloc (.cells #[.string ⟨#[]⟩, .bool false, .bool false, .bool false, .slice none 0 0, .int .i64 0, .int .i64 0, .int .i64 0, .string ⟨#[]⟩, .slice none 0 0, .slice none 0 0] 66)).setRow wr.heap.size #[.string y.name, .bool y.over, .bool y.abs, .bool y.fin, .slice a4 l4 c4, .int .i64 y.result.kind, .int .i64 y.result.lo, .int .i64 y.result.hi, .string y.result.name, .slice a9 l9 c9, .slice a10 l10 c10]) := boxT_below (Below.refl lim wr) (Nat.le_trans HL.out HB.out.size) _ _ _
          have HR4 := Lib.hid (row_lim hr4 hbe)
          have HR9 := Lib.hid (row_lim hr9 hbe)
          have HR10 := Lib.hid (row_lim hr10 hbe)
          have hone : (#[.string y.name, .bool y.over, .bool y.abs, .bool y.fin, .slice a4 l4 c4, .int .i64 y.result.kind, .int .i64 y.result.lo, .int .i64 y.result.hi, .string y.result.name, .slice a9 l9 c9, .slice a10 l10 c10] : Array Value).all (·.oneCell') = true := by simp [Value.oneCell']
          clear hy hc7 hI7 hr4 hr9 hr10 hbe
          go_upto_region 13 with (first | (refine wpList_load_at rfl 66 (.tmp 77) rfl b7 (o7 + j * 11) rfl (#[.string y.name, .bool y.over, .bool y.abs, .bool y.fin, .slice a4 l4 c4, .int .i64 y.result.kind, .int .i64 y.result.lo, .int .i64 y.result.hi, .string y.result.name, .slice a9 l9 c9, .slice a10 l10 c10]).toList _ HCA.out Try.underlying66 rfl size66 ?_) | (refine wpList_store_row rfl 66 (.tmp 9) (.tmp 78) rfl wr.heap.size #[.string y.name, .bool y.over, .bool y.abs, .bool y.fin, .slice a4 l4 c4, .int .i64 y.result.kind, .int .i64 y.result.lo, .int .i64 y.result.hi, .string y.result.name, .slice a9 l9 c9, .slice a10 l10 c10] rfl rfl 66 #[.string ⟨#[]⟩, .bool false, .bool false, .bool false, .slice none 0 0, .int .i64 0, .int .i64 0, .int .i64 0, .string ⟨#[]⟩, .slice none 0 0, .slice none 0 0] HK1.out size66 rfl hone ?_))
          clear hone HCA HK1 HX HY HB g7
          generalize hV1 : ((wr.alloc (.cells #[.string ⟨#[]⟩, .bool false, .bool false, .bool false, .slice none 0 0, .int .i64 0, .int .i64 0, .int .i64 0, .string ⟨#[]⟩, .slice none 0 0, .slice none 0 0] 66)).setRow wr.heap.size #[.string y.name, .bool y.over, .bool y.abs, .bool y.fin, .slice a4 l4 c4, .int .i64 y.result.kind, .int .i64 y.result.lo, .int .i64 y.result.hi, .string y.result.name, .slice a9 l9 c9, .slice a10 l10 c10]) = V4 at *
          clear hV1
          generalize wr.heap.size = g2 at *
          have m0 : V4.cell? ⟨g2, 0, none⟩ = some (.string y.name) := by rw [Lib.cell_of_heap HM1.out]; rfl
          have m8 : V4.cell? ⟨g2, 8, none⟩ = some (.string y.result.name) := by rw [Lib.cell_of_heap HM1.out]; rfl
          cases hs1 : decide ((60 : Int) < (y.name.size : Int)) with
          | true =>
            go_wp2_with fail
            go_returns
            exact ⟨_, rfl, fun h => (by cases h), HB1.out⟩
          | false =>
          cases hs2 : decide ((60 : Int) < (y.result.name.size : Int)) with
          | true =>
            go_wp2_with fail
            go_returns
            exact ⟨_, rfl, fun h => (by cases h), HB1.out⟩
          | false =>
          go_upto_region 15 with fail
          clear m0 m8 hs1 hs2
          have m4 : V4.cell? ⟨g2, 4, none⟩ = some (.slice a4 l4 c4) := by rw [Lib.cell_of_heap HM1.out]; rfl
          have m9 : V4.cell? ⟨g2, 9, none⟩ = some (.slice a9 l9 c9) := by rw [Lib.cell_of_heap HM1.out]; rfl
          have m10 : V4.cell? ⟨g2, 10, none⟩ = some (.slice a10 l10 c10) := by rw [Lib.cell_of_heap HM1.out]; rfl
          have r4 := HR4.out
          have r9 := HR9.out
          have h43 : ∀ (n : Nat) (a' : Option Addr) (l' c' : Nat) (xs : List VarU), Row shVar (fun k => k < lim) V4 a' l' xs → Calls Try.prog 43 #[.slice a' l' c', .int .i64 m] (V4.drewN n) fun e w' => e = .returned (.int .i64 (goV l' m xs)) ∧ w' = V4.drewN n := fun n _ _ _ _ h => vars_any (fun k => k < lim) _ _ _ _ _ _ (Row.keep (W := V4) (W' := V4.drewN n) (fun _ _ => rfl) h)
          have h44 : ∀ n, Calls Try.prog 44 #[.slice a10 l10 c10, .int .i64 (wrap64 (m - M))] (V4.drewN n) fun e w' => e = .returned (.int .i64 (cntS d10 y.body (wrap64 (m - M)))) ∧ w' = V4.drewN n := fun n => stmts_any (fun k => k < lim) d10 _ _ _ _ _ y.body (Row.keep (W := V4) (W' := V4.drewN n) (fun _ _ => rfl) HR10.out)
          generalize cntS d10 y.body (wrap64 (m - M)) = q2 at *
          go_quiet (first | (go_at_call 43; exact Calls.quiet_of_same (h43 _ _ _ _ _ (by assumption))) | (go_at_call 44; exact Calls.quiet_of_same (h44 _)))
          generalize goV (↑l4) m y.params = q1 at *
          generalize goV (↑l9) m y.vars = q3 at *
          clear h43 h44 r4 r9 m4 m9 m10
          have HX5 := Lib.hid (show (V4.drewN nq).heap[g]? = some (.cells #[.int .i64 x.kind, .string x.name, .string x.base, .slice a3 l3 c3, .bool x.abs, .bool x.fin, .slice a6 l6 c6, .slice (some ⟨b7, o7, none⟩) l7 c7, .slice a8 l8 c8, .int .i64 x.every, .int .i64 x.first] 47 (0, 0)) from HX1.out)
          have HY5 := Lib.hid (show (V4.drewN nq).heap[W.heap.size]? = some (.cells #[.slice (some ⟨b, o, none⟩) l c] 24 (0, 0)) from HY1.out)
          have HB5 := Lib.hid (show Below W.heap.size W (V4.drewN nq) from below_drew HB1.out nq)
          generalize V4.drewN nq = V5 at *
          go_wp2_with fail
          exact ⟨⟨j + 1, _, by omega, rfl, by go_num, HX5.out, HY5.out, HB5.out⟩, by simp [intOf]; omega⟩
        · obtain rfl : j = l7 := by omega
          go_wp2_with fail
          exact ⟨⟨k + 1, _, by omega, rfl, by go_num, HF1.out, HY.out, HB.out⟩, by simp [intOf]; omega⟩
    · obtain rfl : k = l := by omega
      cases hN : decide (m < N) with
      | false =>
        go_wp2_with fail
        go_returns
        exact ⟨_, rfl, fun _ => ⟨HL16.out, fun i x hx => HF.out i x (by have := (List.getElem?_eq_some_iff.1 hx).1; rw [HR.out.1] at this; exact this) hx⟩, HB.out⟩
      | true =>
        go_wp2_with fail
        go_returns
        exact ⟨_, rfl, fun h => (by cases h), HB.out⟩

end Go.Proofs.Ytnjfbcoddbeggaa
