/-
  image.Same, whatever it is asked: tables, faces.
-/
import Derived.Test.YtoaohoeghlidaaaGreatDoorSm
namespace Go.Proofs.YtoaohoeghlidaaaGreatDoor
open Go.ChangeShapes Go.WideShapes Go.ChangeAt Go.RowKit

theorem boxT_is (V : World) (z cs : Array Value) (t : TypeId) : ((V.alloc (.cells z t)).setRow V.heap.size cs).heap[V.heap.size]? = some (.cells cs t (0, 0)) := by
  have h := heap_alloc_new V (.cells z t)
  simp only [World.setRow, Array.getElem?_modify, h, if_true, Option.map_some]
theorem boxT_keep (V : World) (z cs : Array Value) (t : TypeId) (k : Nat) (hk : k < V.heap.size) : ((V.alloc (.cells z t)).setRow V.heap.size cs).heap[k]? = V.heap[k]? := by
  have h := Below.heap_alloc V (.cells z t) k hk
  rw [← h]
  simp [World.setRow, Array.getElem?_modify, show ¬ V.heap.size = k by omega]
theorem rowT_below {B : Nat} {W V : World} (h : Below B W V) {q : Nat} (hq : B ≤ q) (cs : Array Value) : Below B W (V.setRow q cs) :=
  ⟨h.os, h.tape, h.output, by simpa [World.setRow] using h.size, fun k hk => by
    rw [← h.block k hk]
    simp [World.setRow, Array.getElem?_modify, show ¬ q = k by omega]⟩
theorem rowT_other (w : World) (g : Nat) (cs : Array Value) (k : Nat) (h : k ≠ g) : (w.setRow g cs).heap[k]? = w.heap[k]? := by
  simp [World.setRow, Array.getElem?_modify, Ne.symm h]
theorem rowT_same {w : World} {g : Nat} {old : Array Value} {t : TypeId} {fz : Nat × Nat} (cs : Array Value) (h : w.heap[g]? = some (.cells old t fz)) : (w.setRow g cs).heap[g]? = some (.cells cs t fz) := by
  simp [World.setRow, Array.getElem?_modify, h]
theorem size58s : (Tryz.prog.info? 58).map (·.size) = some 2 := by kernel_rfl
theorem size56s : (Tryz.prog.info? 56).map (·.size) = some 6 := by kernel_rfl
theorem size61s : (Tryz.prog.info? 61).map (·.size) = some 6 := by kernel_rfl

set_option maxHeartbeats 3200000 in
set_option maxRecDepth 100000 in
theorem sm_faces : Sm 33 [.func (.func 34) #[] #[]] mk1 (shSlice shTexts) := by
  intro lim W vs us xs ys h1 h2 hl
  obtain ⟨a, l, c, rfl, hr⟩ := slice_is.1 h1
  obtain ⟨a', l', c', rfl, hr'⟩ := slice_is.1 h2
  have HR := Lib.hid hr
  have HR' := Lib.hid hr'
  have hml : l ≤ 9223372036854775807 := by have := hr.le; unfold maxLen at this; omega
  clear h1 h2
  by_cases hnl : ¬ l = l'
  · have hll := hnl
    have hl2 : ((l : Int) != (l' : Int)) = true := by simp; omega
    have hne : xs ≠ ys := fun h => hll (by rw [← hr.1, ← hr'.1, h])
    clear hr hr'
    show Calls Tryz.prog 33 #[.slice a l c, .slice a' l' c', .func (.func 34) #[] #[]] W _
    go_enter Tryz.func33, Tryz.ntmps33
    go_wp2_with fail
    go_returns
    exact ⟨⟨false, rfl, by simp [hne]⟩, Below.refl _ _⟩
  obtain rfl := Decidable.not_not.1 hnl
  clear hnl
  have hl2 : ((l : Int) != (l : Int)) = false := by simp
  have hlen := hr.1
  have hlen' := hr'.1
  clear hr hr'
  show Calls Tryz.prog 33 #[.slice a l c, .slice a' l c', .func (.func 34) #[] #[]] W _
  go_enter Tryz.func33, Tryz.ntmps33
  go_wp2_with fail
  go_loopw [17] (fun i wr => ∃ k : Nat, k ≤ l ∧ i = .int .i64 k ∧ Below W.heap.size W wr ∧ (∀ j, j < k → xs[j]? = ys[j]?)) (fun i _ => l - (intOf i).toNat)
  case atStart => exact ⟨0, Nat.zero_le _, rfl, Below.refl _ _, fun j hj => absurd hj (Nat.not_lt_zero j)⟩
  case round =>
    obtain ⟨k, hk, rfl, hbw, hsame⟩ := hrel
    have HBW := Lib.hid hbw
    have HSM := Lib.hid hsame
    clear hsame
    by_cases hlt : k < l
    · have hrA : Row (shSlice shStr) (fun k => k < lim) wr a l xs := HR.out.keep (fun k hk => hbw.block k (by omega))
      have hrB : Row (shSlice shStr) (fun k => k < lim) wr a' l ys := HR'.out.keep (fun k hk => hbw.block k (by omega))
      obtain ⟨ba, oa, x, vs, rfl, _, hx, hba, iA⟩ := hrA.item hlt
      obtain ⟨bb, ob, y, us, rfl, _, hx', hbb, iB⟩ := hrB.item hlt
      have i0 : (k : Int) < (l : Int) := by omega
      have i1 : (0 : Int) ≤ (k : Int) := by omega
      have hc0 := sm_texts lim wr vs us x y iA iB (Nat.le_trans hl hbw.size)
      obtain ⟨pa, pl, pc, rfl, -⟩ := slice_is.1 iA
      obtain ⟨qa, ql, qc, rfl, -⟩ := slice_is.1 iB
      have hc : Calls Tryz.prog 34 #[.slice pa pl pc, .slice qa ql qc] wr _ := hc0
      have e0 : wr.cell? ⟨ba, oa + k, none⟩ = some (.slice pa pl pc) := by have := hba 0 _ rfl; rw [show oa + k * (shSlice shStr).n + 0 = oa + k by show oa + k * 1 + 0 = _; omega] at this; exact this
      have d0 : wr.cell? ⟨bb, ob + k, none⟩ = some (.slice qa ql qc) := by have := hbb 0 _ rfl; rw [show ob + k * (shSlice shStr).n + 0 = ob + k by show ob + k * 1 + 0 = _; omega] at this; exact this
      have HXX := Lib.hid hx
      have HXY := Lib.hid hx'
      clear hba hbb hrA hrB hbw hx hx' iA iB hc0
      go_wp2_with (go_at_call 34; refine hc.mono ?_)
      rintro e V ⟨⟨β, rfl, hβ⟩, hb⟩
      have HB2 := Lib.hid (HBW.out.trans (hb.mono HBW.out.size))
      clear hc hb e0 d0
      cases β with
      | false =>
        have HNE := Lib.hid (show xs ≠ ys from fun h => by
          have h9 := HXX.out
          rw [h, HXY.out] at h9
          have := hβ.2 (Option.some.inj h9).symm
          cases this)
        clear hβ
        go_wp2_with fail
        go_returns
        exact ⟨⟨false, rfl, by simp [HNE.out]⟩, HB2.out⟩
      | true =>
        have hxy := hβ.1 rfl
        subst hxy
        clear hβ
        go_wp2_with fail
        refine ⟨⟨k + 1, by omega, by go_num, HB2.out, ?_⟩, by simp [intOf]; omega⟩
        intro j hj
        rcases Nat.lt_or_ge j k with h | h
        · exact HSM.out j h
        · rw [show j = k by omega, HXX.out, HXY.out]
    · have HEQ := Lib.hid (all_one (hlen.trans hlen'.symm) (fun j hj => HSM.out j (by omega)))
      clear hbw
      obtain rfl : k = l := by omega
      go_wp2_with fail
      go_returns
      exact ⟨⟨true, rfl, by simp [HEQ.out]⟩, HBW.out⟩

set_option maxHeartbeats 8000000 in
set_option maxRecDepth 100000 in
theorem sm_table : Sm 71 [] mkA shTable := by
  intro lim W vs us x y h1 h2 hl
  obtain ⟨pa1, pl1, pc1, rfl, hp1⟩ := table_is.1 h1
  obtain ⟨qa1, ql1, qc1, rfl, hq1⟩ := table_is.1 h2
  clear h1 h2
  rcases x with ⟨x0, x1⟩
  rcases y with ⟨y0, y1⟩
  have HP1 := Lib.hid (show Row shInt (fun k => k < lim) W pa1 pl1 x1 from hp1)
  have HQ1 := Lib.hid (show Row shInt (fun k => k < lim) W qa1 ql1 y1 from hq1)
  have HB0 := Lib.hid (((Below.refl W.heap.size W).alloc (Nat.le_refl _) (.cells #[.int .i64 x0, .slice pa1 pl1 pc1] 58)).alloc (by simp) (.cells #[.int .i64 y0, .slice qa1 ql1 qc1] 58))
  have HX0 := Lib.hid ((Below.heap_alloc (W.alloc (.cells #[.int .i64 x0, .slice pa1 pl1 pc1] 58)) (.cells #[.int .i64 y0, .slice qa1 ql1 qc1] 58) W.heap.size (by simp)).trans (heap_alloc_new W (.cells #[.int .i64 x0, .slice pa1 pl1 pc1] 58)))
  have HY0 := Lib.hid (show ((W.alloc (.cells #[.int .i64 x0, .slice pa1 pl1 pc1] 58)).alloc (.cells #[.int .i64 y0, .slice qa1 ql1 qc1] 58)).heap[W.heap.size + 1]? = some (.cells #[.int .i64 y0, .slice qa1 ql1 qc1] 58 (0, 0)) by have := heap_alloc_new (W.alloc (.cells #[.int .i64 x0, .slice pa1 pl1 pc1] 58)) (.cells #[.int .i64 y0, .slice qa1 ql1 qc1] 58); rw [show (W.alloc (.cells #[.int .i64 x0, .slice pa1 pl1 pc1] 58)).heap.size = W.heap.size + 1 by simp] at this; exact this)
  clear hp1 hq1
  show Calls Tryz.prog 71 #[.agg #[.int .i64 x0, .slice pa1 pl1 pc1], .agg #[.int .i64 y0, .slice qa1 ql1 qc1]] W _
  go_enter Tryz.func71, Tryz.ntmps71
  have e0 : ((W.alloc (.cells #[.int .i64 x0, .slice pa1 pl1 pc1] 58)).alloc (.cells #[.int .i64 y0, .slice qa1 ql1 qc1] 58)).cell? ⟨W.heap.size, 0, none⟩ = some (.int .i64 x0) := by rw [Lib.cell_of_heap HX0.out]; rfl
  have d0 : ((W.alloc (.cells #[.int .i64 x0, .slice pa1 pl1 pc1] 58)).alloc (.cells #[.int .i64 y0, .slice qa1 ql1 qc1] 58)).cell? ⟨W.heap.size + 1, 0, none⟩ = some (.int .i64 y0) := by rw [Lib.cell_of_heap HY0.out]; rfl
  have e1 : ((W.alloc (.cells #[.int .i64 x0, .slice pa1 pl1 pc1] 58)).alloc (.cells #[.int .i64 y0, .slice qa1 ql1 qc1] 58)).cell? ⟨W.heap.size, 1, none⟩ = some (.slice pa1 pl1 pc1) := by rw [Lib.cell_of_heap HX0.out]; rfl
  have d1 : ((W.alloc (.cells #[.int .i64 x0, .slice pa1 pl1 pc1] 58)).alloc (.cells #[.int .i64 y0, .slice qa1 ql1 qc1] 58)).cell? ⟨W.heap.size + 1, 1, none⟩ = some (.slice qa1 ql1 qc1) := by rw [Lib.cell_of_heap HY0.out]; rfl
  by_cases m0 : x0 = y0
  rotate_left
  · have n0 := m0
    clear m0
    have b0 : (x0 == y0) = false := by simp [n0]
    have HNE := Lib.hid (show (⟨x0, x1⟩ : TableD) ≠ ⟨y0, y1⟩ from fun h => n0 (by cases h; rfl))
    clear n0
    go_wp2_with fail
    go_returns
    exact ⟨⟨false, rfl, by simp only [Bool.false_eq_true, false_iff]; exact HNE.out⟩, HB0.out⟩
  subst m0
  have hc : Calls Tryz.prog 39 #[.slice pa1 pl1 pc1, .slice qa1 ql1 qc1] ((W.alloc (.cells #[.int .i64 x0, .slice pa1 pl1 pc1] 58)).alloc (.cells #[.int .i64 x0, .slice qa1 ql1 qc1] 58)) _ := sm_ints lim ((W.alloc (.cells #[.int .i64 x0, .slice pa1 pl1 pc1] 58)).alloc (.cells #[.int .i64 x0, .slice qa1 ql1 qc1] 58)) [.slice pa1 pl1 pc1] [.slice qa1 ql1 qc1] x1 y1 (slice_is.2 ⟨_, _, _, rfl, HP1.out.keep (fun k hk => HB0.out.block k (by omega))⟩) (slice_is.2 ⟨_, _, _, rfl, HQ1.out.keep (fun k hk => HB0.out.block k (by omega))⟩) (Nat.le_trans hl HB0.out.size)
  go_wp2_with (go_at_call 39; refine hc.mono ?_)
  first | rintro e V1 ⟨⟨β, rfl, hβ⟩, hb⟩ | rintro e V1 β rfl hβ hb | rintro e V1 ⟨β, rfl, hβ⟩ hb
  have HB1 := Lib.hid (HB0.out.trans (hb.mono HB0.out.size))
  clear hc hb
  clear e0 d0 e1 d1
  cases β with
  | false =>
    have n1 : ¬ x1 = y1 := fun h => by have := hβ.2 h; cases this
    clear hβ
    have HNE := Lib.hid (show (⟨x0, x1⟩ : TableD) ≠ ⟨x0, y1⟩ from fun h => n1 (by cases h; rfl))
    clear n1
    go_wp2_with fail
    go_returns
    exact ⟨⟨false, rfl, by simp only [Bool.false_eq_true, false_iff]; exact HNE.out⟩, HB1.out⟩
  | true =>
  have m1 := hβ.1 rfl
  clear hβ
  subst m1
  go_wp2_with fail
  go_returns
  refine ⟨?_, HB1.out⟩
  first | exact ⟨true, rfl, by simp⟩ | rfl

set_option maxHeartbeats 3200000 in
set_option maxRecDepth 100000 in
theorem sm_tables : Sm 70 [.func (.func 71) #[] #[]] mk1 (shSlice shTable) := by
  intro lim W vs us xs ys h1 h2 hl
  obtain ⟨a, l, c, rfl, hr⟩ := slice_is.1 h1
  obtain ⟨a', l', c', rfl, hr'⟩ := slice_is.1 h2
  have HR := Lib.hid hr
  have HR' := Lib.hid hr'
  have hml : l ≤ 9223372036854775807 := by have := hr.le; unfold maxLen at this; omega
  clear h1 h2
  by_cases hnl : ¬ l = l'
  · have hll := hnl
    have hl2 : ((l : Int) != (l' : Int)) = true := by simp; omega
    have hne : xs ≠ ys := fun h => hll (by rw [← hr.1, ← hr'.1, h])
    clear hr hr'
    show Calls Tryz.prog 70 #[.slice a l c, .slice a' l' c', .func (.func 71) #[] #[]] W _
    go_enter Tryz.func70, Tryz.ntmps70
    go_wp2_with fail
    go_returns
    exact ⟨⟨false, rfl, by simp [hne]⟩, Below.refl _ _⟩
  obtain rfl := Decidable.not_not.1 hnl
  clear hnl
  have hl2 : ((l : Int) != (l : Int)) = false := by simp
  have hlen := hr.1
  have hlen' := hr'.1
  clear hr hr'
  show Calls Tryz.prog 70 #[.slice a l c, .slice a' l c', .func (.func 71) #[] #[]] W _
  go_enter Tryz.func70, Tryz.ntmps70
  go_wp2_with fail
  go_loopw [17] (fun i wr => ∃ k : Nat, k ≤ l ∧ i = .int .i64 k ∧ Below W.heap.size W wr ∧ (∀ j, j < k → xs[j]? = ys[j]?)) (fun i _ => l - (intOf i).toNat)
  case atStart => exact ⟨0, Nat.zero_le _, rfl, Below.refl _ _, fun j hj => absurd hj (Nat.not_lt_zero j)⟩
  case round =>
    obtain ⟨k, hk, rfl, hbw, hsame⟩ := hrel
    have HBW := Lib.hid hbw
    have HSM := Lib.hid hsame
    clear hsame
    by_cases hlt : k < l
    · have hrA : Row shTable (fun k => k < lim) wr a l xs := HR.out.keep (fun k hk => hbw.block k (by omega))
      have hrB : Row shTable (fun k => k < lim) wr a' l ys := HR'.out.keep (fun k hk => hbw.block k (by omega))
      obtain ⟨ba, oa, x, vs, rfl, hSa, hx, hba, iA⟩ := hrA.item hlt
      obtain ⟨bb, ob, y, us, rfl, hSb, hx', hbb, iB⟩ := hrB.item hlt
      have i0 : (k : Int) < (l : Int) := by omega
      have i1 : (0 : Int) ≤ (k : Int) := by omega
      have hc0 := fun (V : World) (hv : Below wr.heap.size wr V) (hlw : lim ≤ wr.heap.size) => sm_table lim V vs us x y (shTable.keep (fun k hk => hv.block k (by omega)) iA) (shTable.keep (fun k hk => hv.block k (by omega)) iB) (Nat.le_trans hlw hv.size)
      obtain ⟨pa, pl, pc, rfl, -⟩ := table_is.1 iA
      obtain ⟨qa, ql, qc, rfl, -⟩ := table_is.1 iB
      have e0 : wr.cell? ⟨ba, oa + k * 2, none⟩ = some (.int .i64 x.face) := hba 0 _ rfl
      have e1 : wr.cell? ⟨ba, oa + k * 2 + 1, none⟩ = some (.slice pa pl pc) := hba 1 _ rfl
      have hz1 : ((wr.alloc (.cells #[.int .i64 0, .slice none 0 0] 58)).setRow wr.heap.size #[.int .i64 x.face, .slice pa pl pc]).heap.size = wr.heap.size + 1 := by simp [World.setRow]
      have d0 : ((wr.alloc (.cells #[.int .i64 0, .slice none 0 0] 58)).setRow wr.heap.size #[.int .i64 x.face, .slice pa pl pc]).cell? ⟨bb, ob + k * 2, none⟩ = some (.int .i64 y.face) := by
        rw [World.cell?_of_block (a := ⟨bb, ob + k * 2, none⟩) (boxT_keep wr #[.int .i64 0, .slice none 0 0] #[.int .i64 x.face, .slice pa pl pc] 58 bb (by have := hbw.size; omega))]
        exact hbb 0 _ rfl
      have d1 : ((wr.alloc (.cells #[.int .i64 0, .slice none 0 0] 58)).setRow wr.heap.size #[.int .i64 x.face, .slice pa pl pc]).cell? ⟨bb, ob + k * 2 + 1, none⟩ = some (.slice qa ql qc) := by
        rw [World.cell?_of_block (a := ⟨bb, ob + k * 2 + 1, none⟩) (boxT_keep wr #[.int .i64 0, .slice none 0 0] #[.int .i64 x.face, .slice pa pl pc] 58 bb (by have := hbw.size; omega))]
        exact hbb 1 _ rfl
      have HK1 := Lib.hid (heap_alloc_new wr (.cells #[.int .i64 0, .slice none 0 0] 58))
      have HK2 := Lib.hid (show (((wr.alloc (.cells #[.int .i64 0, .slice none 0 0] 58)).setRow wr.heap.size #[.int .i64 x.face, .slice pa pl pc]).alloc (.cells #[.int .i64 0, .slice none 0 0] 58)).heap[wr.heap.size + 1]? = some (.cells #[.int .i64 0, .slice none 0 0] 58 (0, 0)) by have := heap_alloc_new ((wr.alloc (.cells #[.int .i64 0, .slice none 0 0] 58)).setRow wr.heap.size #[.int .i64 x.face, .slice pa pl pc]) (.cells #[.int .i64 0, .slice none 0 0] 58); rw [hz1] at this; exact this)
      have HX8 := Lib.hid (show ((((wr.alloc (.cells #[.int .i64 0, .slice none 0 0] 58)).setRow wr.heap.size #[.int .i64 x.face, .slice pa pl pc]).alloc (.cells #[.int .i64 0, .slice none 0 0] 58)).setRow (wr.heap.size + 1) #[.int .i64 y.face, .slice qa ql qc]).heap[wr.heap.size]? = some (.cells #[.int .i64 x.face, .slice pa pl pc] 58 (0, 0)) from (rowT_other _ _ _ _ (by omega)).trans ((Below.heap_alloc _ _ _ (by rw [hz1]; omega)).trans (boxT_is wr #[.int .i64 0, .slice none 0 0] #[.int .i64 x.face, .slice pa pl pc] 58)))
      have HX9 := Lib.hid (show ((((wr.alloc (.cells #[.int .i64 0, .slice none 0 0] 58)).setRow wr.heap.size #[.int .i64 x.face, .slice pa pl pc]).alloc (.cells #[.int .i64 0, .slice none 0 0] 58)).setRow (wr.heap.size + 1) #[.int .i64 y.face, .slice qa ql qc]).heap[wr.heap.size + 1]? = some (.cells #[.int .i64 y.face, .slice qa ql qc] 58 (0, 0)) from rowT_same #[.int .i64 y.face, .slice qa ql qc] HK2.out)
      have HBX := Lib.hid (show Below wr.heap.size wr ((((wr.alloc (.cells #[.int .i64 0, .slice none 0 0] 58)).setRow wr.heap.size #[.int .i64 x.face, .slice pa pl pc]).alloc (.cells #[.int .i64 0, .slice none 0 0] 58)).setRow (wr.heap.size + 1) #[.int .i64 y.face, .slice qa ql qc]) from rowT_below ((rowT_below ((Below.refl wr.heap.size wr).alloc (Nat.le_refl _) (.cells #[.int .i64 0, .slice none 0 0] 58)) (Nat.le_refl _) #[.int .i64 x.face, .slice pa pl pc]).alloc (by rw [hz1]; omega) (.cells #[.int .i64 0, .slice none 0 0] 58)) (Nat.le_succ _) #[.int .i64 y.face, .slice qa ql qc])
      have hone1 : (#[.int .i64 x.face, .slice pa pl pc] : Array Value).all (·.oneCell') = true := by simp [Value.oneCell']
      have hone2 : (#[.int .i64 y.face, .slice qa ql qc] : Array Value).all (·.oneCell') = true := by simp [Value.oneCell']
      have hcc := hc0 _ HBX.out (by have := hbw.size; omega)
      have hc : Calls Tryz.prog 71 #[.agg #[.int .i64 x.face, .slice pa pl pc], .agg #[.int .i64 y.face, .slice qa ql qc]] ((((wr.alloc (.cells #[.int .i64 0, .slice none 0 0] 58)).setRow wr.heap.size #[.int .i64 x.face, .slice pa pl pc]).alloc (.cells #[.int .i64 0, .slice none 0 0] 58)).setRow (wr.heap.size + 1) #[.int .i64 y.face, .slice qa ql qc]) _ := hcc
      clear hcc
      have HXX := Lib.hid hx
      have HXY := Lib.hid hx'
      clear hba hbb hrA hrB hbw hx hx' iA iB hc0
      go_wp2_with (first | (refine wpList_store_row rfl 58 (.tmp 8) (.tmp 21) rfl wr.heap.size #[.int .i64 x.face, .slice pa pl pc] rfl rfl 58 #[.int .i64 0, .slice none 0 0] HK1.out size58s rfl hone1 ?_) | (refine wpList_store_row rfl 58 (.tmp 9) (.tmp 25) rfl (wr.heap.size + 1) #[.int .i64 y.face, .slice qa ql qc] rfl rfl 58 #[.int .i64 0, .slice none 0 0] HK2.out size58s rfl hone2 ?_) | (refine wpList_load_row rfl 58 (.tmp 8) rfl wr.heap.size rfl 58 #[.int .i64 x.face, .slice pa pl pc] (0, 0) _ HX8.out Tryz.underlying58 rfl size58s ?_) | (refine wpList_load_row rfl 58 (.tmp 9) rfl (wr.heap.size + 1) rfl 58 #[.int .i64 y.face, .slice qa ql qc] (0, 0) _ HX9.out Tryz.underlying58 rfl size58s ?_) | (go_at_call 71; refine hc.mono ?_))
      first | rintro e V ⟨⟨β, rfl, hβ⟩, hb⟩ | rintro e V ⟨β, rfl, hβ⟩ hb
      have HB2 := Lib.hid ((HBW.out.trans (HBX.out.mono HBW.out.size)).trans (hb.mono (Nat.le_trans HBW.out.size HBX.out.size)))
      clear hone1 hone2 hz1
      clear hc hb e0 d0 e1 d1
      cases β with
      | false =>
        have HNE := Lib.hid (show xs ≠ ys from fun h => by
          have h9 := HXX.out
          rw [h, HXY.out] at h9
          have := hβ.2 (Option.some.inj h9).symm
          cases this)
        clear hβ
        go_wp2_with fail
        go_returns
        exact ⟨⟨false, rfl, by simp [HNE.out]⟩, HB2.out⟩
      | true =>
        have hxy := hβ.1 rfl
        subst hxy
        clear hβ
        go_wp2_with fail
        refine ⟨⟨k + 1, by omega, by go_num, HB2.out, ?_⟩, by simp [intOf]; omega⟩
        intro j hj
        rcases Nat.lt_or_ge j k with h | h
        · exact HSM.out j h
        · rw [show j = k by omega, HXX.out, HXY.out]
    · have HEQ := Lib.hid (all_one (hlen.trans hlen'.symm) (fun j hj => HSM.out j (by omega)))
      clear hbw
      obtain rfl : k = l := by omega
      go_wp2_with fail
      go_returns
      exact ⟨⟨true, rfl, by simp [HEQ.out]⟩, HBW.out⟩
end Go.Proofs.YtoaohoeghlidaaaGreatDoor
