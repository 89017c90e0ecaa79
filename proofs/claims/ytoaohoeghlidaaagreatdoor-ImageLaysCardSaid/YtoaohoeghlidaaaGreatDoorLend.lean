/-
  Bytes lent, and bytes overwritten.
-/
import Derived.Test.YtoaohoeghlidaaaGreatDoorAwake
import Derived.OwnWalk
import Derived.Deep.DeepAppendRoom
import Derived.Laws.OwnMore
namespace Go.Proofs.YtoaohoeghlidaaaGreatDoor
open Go.ChangeShapes Go.WideShapes Go.ChangeAt Go.RowKit

theorem wpList_append_nil {P : Program} {ops : Array Oper} {rest : List Oper} {o : Oper} {a : Act} {w : World} {Q : Exit → Act → World → Prop} (hgd : o.guard = none) (s x : Operand) (t : TypeId)
    (ho : o.op = .call { callee := .builtin .append, args := #[s, x], argTypes := #[t, t] })
    (base : Nat) (e : TypeId) (i : TypeInfo) (size : Nat) (ht : P.underlying t = some (.slice e)) (hi : P.info? e = some i)
    (v : Value) (n : Nat) (xs : List Value) (hs : a.eval s = v) (hown : w.ownsRow base e size v n xs) (hx : a.eval x = .slice none 0 0)
    (h : wpList P ops Q rest (a.put o.dst v) w) : wpList P ops Q (o :: rest) a w :=
  wpList_plain hgd fun _ hK => by
    have hr := run_append_owned_none (P := P) w base t o.type e i size ht hi v n xs hown
    unfold Oper.wp execOp
    simp only [ho, resolve, invoke, builtin, Sem.run_bind, Sem.run_pure, Result.andThen_ok, List.map_toArray, List.map_cons, List.map_nil, hs, hx, hr]
    exact hK _ _ h
theorem set_past {l : List Value} {j : Nat} {u : Value} (h : l.length ≤ j) : l.set j u = l := List.set_eq_of_length_le h
theorem own_spare_cell {w : World} {lo : Nat} {e : TypeId} {g n cap : Nat} {xs : List Value} (h : w.ownsRow lo e 1 (.slice (some ⟨g, 0, none⟩) n cap) n xs) {j : Nat} (hj : j < cap) : ∃ u, w.cell? ⟨g, j, none⟩ = some u := by
  rcases h.2 with ⟨h', _⟩ | ⟨g', cap', cur, h', _, hg, _, _, hcs, _⟩
  · simp at h'
  · simp only [Value.slice.injEq, Option.some.injEq, Addr.mk.injEq, and_true, true_and] at h'
    obtain ⟨rfl, rfl⟩ := h'
    rw [cell_of_row w g j cur e (0, 0) hg]
    exact ⟨_, Array.getElem?_eq_getElem (by omega)⟩

set_option maxHeartbeats 1600000 in
set_option maxRecDepth 100000 in
theorem lend_any (W : World) (B : List UInt8) (a : Option Addr) (n cap : Nat) (hB : Bytes W W.heap.size a n cap B) (hn : n ≤ 4000) :
    Calls Tryz.prog 16 #[.slice a n cap] W fun e W' => e = .returned (.slice (some ⟨W.heap.size, 0, none⟩) n (n + 3)) ∧ W'.ownsRow W.heap.size 5 1 (.slice (some ⟨W.heap.size, 0, none⟩) n (n + 3)) n (byteCells B) ∧ Below W.heap.size W W' := by
  obtain ⟨i00, hi, hz0, hz1, hz2⟩ := info_parts info5
  have HBB := Lib.hid hB
  have hbl := hB.1
  clear hB
  have w1 : IntKind.i64.wrap ((n : Int) + 3) = (n : Int) + 3 := IntWalk.i64_in _ (by omega)
  go_enter Tryz.func16, Tryz.ntmps16
  go_wp2_with (at_make; refine wpList_make_own _ rfl (.const (.int .i64 0)) (.tmp 8) 32 rfl W.heap.size 5 i00 (.int .u8 0) 1 Tryz.underlying32 hi hz0 hz1 .i64 .i64 _ (n + 3) rfl rfl (by omega) (by rw [hz2]; omega) (by unfold maxLen; omega) (Nat.le_refl _) ?_)
  intro w0 hown0 hgrow0
  have hres : ∀ (a' : Act), True := fun _ => trivial
  clear hres
  have HG0 := Lib.hid (show Below W.heap.size W w0 from ⟨hgrow0.os, hgrow0.tape, hgrow0.output, hgrow0.size, fun k hk => hgrow0.block k hk (by simp)⟩)
  have HO0 := Lib.hid hown0
  clear hown0 hgrow0
  obtain ⟨_, hcap, hcm, h4⟩ := HBB.out
  rcases h4 with ⟨rfl, rfl⟩ | ⟨bb, o, rfl, hbb, hc⟩
  · obtain rfl : n = 0 := by omega
    obtain rfl : B = [] := List.length_eq_zero_iff.1 hbl
    go_wp2_with (at_builtin; refine wpList_append_nil rfl (.tmp 10) (.tmp 11) 32 rfl W.heap.size 5 i00 1 Tryz.underlying32 hi (.slice (some ⟨W.heap.size, 0, none⟩) 0 (0 + 3)) 0 [] rfl HO0.out rfl ?_)
    have HX := HO0
    have HG := HG0
    go_loopw [5] (fun i wr => ∃ (k : Nat), k ≤ 3 ∧ i = .int .i64 k ∧ wr.ownsRow W.heap.size 5 1 (.slice (some ⟨W.heap.size, 0, none⟩) 0 (0 + 3)) 0 (byteCells []) ∧ Below W.heap.size W wr) (fun i _ => 3 - (intOf i).toNat)
    case atStart => exact ⟨0, Nat.zero_le _, rfl, HX.out, HG.out⟩
    case round =>
      obtain ⟨k, hk, rfl, ho, hf⟩ := hrel
      clear HX HG
      have HOR := Lib.hid ho
      have HFR := Lib.hid hf
      by_cases hlt : k < 3
      · have i0 : (k : Int) < 3 := by omega
        have i1 : (0 : Int) ≤ (k : Int) := by omega
        obtain ⟨u, hu⟩ := own_spare_cell ho (j := 0 + k) (by omega)
        have f0 := ho.frozenAt (0 + k)
        have hst := (ho.stored (0 + k) (.int .u8 119)).1
        rw [set_past (by rw [byteCells_len, hbl]; omega)] at hst
        have HST := Lib.hid hst
        have HFS := Lib.hid (hf.setCell (p := ⟨W.heap.size, 0 + k, none⟩) (Nat.le_refl _) (.int .u8 119))
        clear ho hf hst
        rw [Nat.zero_add] at hu f0 HST HFS
        go_wp2_with fail
        exact ⟨⟨k + 1, by omega, by go_num, HST.out, HFS.out⟩, by simp [intOf]; omega⟩
      · obtain rfl : k = 3 := by omega
        clear ho hf
        go_wp2_with fail
        go_returns
        exact ⟨rfl, HOR.out, HFR.out⟩
  · go_wp2_with (at_builtin; refine wpList_append_own_spare _ rfl (.tmp 10) (.tmp 11) 32 rfl W.heap.size 5 i00 1 Tryz.underlying32 hi hz1 W.heap.size 0 (n + 3) [] rfl HO0.out ⟨bb, o, none⟩ n cap (byteCells B) rfl (by rw [byteCells_len, hbl]; omega) ?c1 ?c2 (by omega) ?_)
    case c1 =>
      intro j u hj
      simp only [byteCells, List.getElem?_map, Option.map_eq_some_iff] at hj
      obtain ⟨c, hj, rfl⟩ := hj
      rw [add_at rfl]
      rw [World.cell?_of_block (a := ⟨bb, o + j, none⟩) (HG0.out.block bb hbb)]
      exact hc j c hj
    case c2 =>
      intro u hu
      simp only [byteCells, List.mem_map] at hu
      obtain ⟨c, _, rfl⟩ := hu
      rfl
    intro w1 hown1 hgrow1
    try simp only [Nat.zero_add, List.nil_append] at hown1
    try simp only [Nat.zero_add]
    have HX := Lib.hid hown1
    have HG := Lib.hid (show Below W.heap.size W w1 from ⟨hgrow1.os.trans HG0.out.os, hgrow1.tape.trans HG0.out.tape, hgrow1.output.trans HG0.out.output, Nat.le_trans HG0.out.size hgrow1.size, fun k hk => (hgrow1.block k (by have := HG0.out.size; omega) (by simp; omega)).trans (HG0.out.block k hk)⟩)
    clear hown1 hgrow1 hc
    have i0 : (0 : Int) ≤ (n : Int) := by omega
    have i1 : (n : Int) ≤ (n : Int) + 3 := by omega
    have i2 : ((n : Int) + 3).toNat = n + 3 := by omega
    have i3 : ¬ (n + 3 = n) := by omega
    have i4 : n + 3 - n = 3 := by omega
    go_wp2_with fail
    go_loopw [5] (fun i wr => ∃ (k : Nat), k ≤ 3 ∧ i = .int .i64 k ∧ wr.ownsRow W.heap.size 5 1 (.slice (some ⟨W.heap.size, 0, none⟩) n (n + 3)) n (byteCells B) ∧ Below W.heap.size W wr) (fun i _ => 3 - (intOf i).toNat)
    case atStart => exact ⟨0, Nat.zero_le _, rfl, HX.out, HG.out⟩
    case round =>
      obtain ⟨k, hk, rfl, ho, hf⟩ := hrel
      clear HX HG
      have HOR := Lib.hid ho
      have HFR := Lib.hid hf
      by_cases hlt : k < 3
      · have i0 : (k : Int) < 3 := by omega
        have i1 : (0 : Int) ≤ (k : Int) := by omega
        obtain ⟨u, hu⟩ := own_spare_cell ho (j := n + k) (by omega)
        have f0 := ho.frozenAt (n + k)
        have hst := (ho.stored (n + k) (.int .u8 119)).1
        rw [set_past (by rw [byteCells_len, hbl]; omega)] at hst
        have HST := Lib.hid hst
        have HFS := Lib.hid (hf.setCell (p := ⟨W.heap.size, n + k, none⟩) (Nat.le_refl _) (.int .u8 119))
        clear ho hf hst
        go_wp2_with fail
        exact ⟨⟨k + 1, by omega, by go_num, HST.out, HFS.out⟩, by simp [intOf]; omega⟩
      · obtain rfl : k = 3 := by omega
        clear ho hf
        go_wp2_with fail
        go_returns
        exact ⟨rfl, HOR.out, HFR.out⟩

set_option maxHeartbeats 1600000 in
set_option maxRecDepth 100000 in
theorem over_any (W : World) (lo g n cap : Nat) (xs : List Value) (hown : W.ownsRow lo 5 1 (.slice (some ⟨g, 0, none⟩) n cap) n xs) (hn : n ≤ 4000) :
    Calls Tryz.prog 15 #[.slice (some ⟨g, 0, none⟩) n cap] W fun e W' => e = .returned (.tuple #[]) ∧ KFr g W W' := by
  obtain ⟨i00, hi, hz0, hz1, hz2⟩ := info_parts info5
  obtain ⟨hlo, hgs, _⟩ := own_type hown (k := g) rfl
  have HO := Lib.hid hown
  clear hown
  go_enter Tryz.func15, Tryz.ntmps15
  go_wp2_with fail
  go_loopw [2] (fun i wr => ∃ (k : Nat) (ys : List Value), k ≤ n ∧ i = .int .i64 k ∧ wr.ownsRow lo 5 1 (.slice (some ⟨g, 0, none⟩) n cap) n ys ∧ KFr g W wr) (fun i _ => n - (intOf i).toNat)
  case atStart => exact ⟨0, xs, Nat.zero_le _, rfl, HO.out, KFr.refl g W⟩
  case round =>
    obtain ⟨k, ys, hk, rfl, ho, hf⟩ := hrel
    have HOR := Lib.hid ho
    have HFR := Lib.hid hf
    by_cases hlt : k < n
    · have i0 : (k : Int) < (n : Int) := by omega
      have i1 : (0 : Int) ≤ (k : Int) := by omega
      obtain ⟨u, hu⟩ : ∃ u, wr.cell? ⟨g, k, none⟩ = some u := by
        rw [ho.cellAt k (by omega)]
        have := ho.1
        exact ⟨_, List.getElem?_eq_getElem (by omega)⟩
      have f0 := ho.frozenAt k
      have HST := Lib.hid (ho.stored k (.int .u8 238)).1
      have HFS := Lib.hid (hf.set (p := ⟨g, k, none⟩) (.inl rfl) (.int .u8 238))
      clear ho hf
      go_wp2_with fail
      exact ⟨⟨k + 1, _, by omega, by go_num, HST.out, HFS.out⟩, by simp [intOf]; omega⟩
    · obtain rfl : k = n := by omega
      have HO2 := Lib.hid (ho.alloc (.cells #[.int .u8 238] 5))
      have hsz := hf.size
      clear ho hf
      go_wp2_with (at_builtin; refine wpList_append_own _ rfl (.tmp 12) (.tmp 13) 32 rfl lo 5 i00 (.int .u8 0) 1 1 Tryz.underlying32 hi hz0 hz1 hz2 rfl (by decide) _ k ys rfl HO2.out ⟨wr.heap.size, 0, none⟩ 1 1 [.int .u8 238] rfl rfl ?c1 ?c2 ?c3 ?c4 ?c5 ?_)
      case c1 => exact lit_cells wr #[.int .u8 238] 5
      case c2 => intro u hu; simp only [List.mem_singleton] at hu; subst hu; rfl
      case c3 => unfold maxLen; omega
      case c4 => omega
      case c5 => simp; omega
      intro v1 w2 hown1 hgrow1 _
      have HF2 := Lib.hid (HFR.out.alloc (.cells #[.int .u8 238] 5))
      have HF3 := Lib.hid (show KFr g W w2 from HF2.out.trans ⟨hgrow1.os, hgrow1.tape, hgrow1.output, hgrow1.size, fun j hj hne => hgrow1.block j hj (by simpa [Value.ownBlock] using hne)⟩)
      clear hown1 hgrow1
      go_wp2_with fail
      go_returns
      exact ⟨rfl, HF3.out⟩
end Go.Proofs.YtoaohoeghlidaaaGreatDoor
