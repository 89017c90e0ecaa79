/-
  Any line's scan: whether it is one.
-/
import Derived.Test.YtjbagjmjbfiddaaGreatDoorNumb
namespace Go.Proofs.YtjbagjmjbfiddaaGreatDoor
open Go.ChangeShapes Go.WideShapes Go.ChangeAt Go.RowKit Go.Sort

theorem size_alloc0 (w : World) (o : Obj) : (w.alloc o).heap.size = w.heap.size + 1 := by simp
theorem splitK_len (sub : List UInt8) : ∀ (f : Nat) (s : List UInt8), (Lib.splitK sub 0 (Lib.countFrom sub f s) s).length = Lib.countFrom sub f s + 1
  | 0, s => rfl
  | f + 1, s => by
    unfold Lib.countFrom
    split
    · rfl
    · rename_i h
      rw [Nat.add_comm 1]
      unfold Lib.splitK
      rw [if_neg h, List.length_cons, splitK_len sub f]
theorem words_len (s : ByteArray) : (wordsOf s).length = Lib.countB s ⟨#[32]⟩ + 1 := by
  have h := congrArg List.length (Lib.splitB_data ⟨#[32]⟩ 0 (Lib.countB s ⟨#[32]⟩) s)
  rw [List.length_map] at h
  unfold wordsOf
  rw [h]
  exact splitK_len _ _ _

theorem zero_cells (w : World) (ws : Array Value) : ((w.alloc (.cells #[.slice none 0 0, .int .i64 0] 45)).alloc (.cells ws 9)).cell? ⟨w.heap.size, 0, none⟩ = some (.slice none 0 0) ∧ ((w.alloc (.cells #[.slice none 0 0, .int .i64 0] 45)).alloc (.cells ws 9)).cell? ⟨w.heap.size, 1, none⟩ = some (.int .i64 0) := by
  have h : ((w.alloc (.cells #[.slice none 0 0, .int .i64 0] 45)).alloc (.cells ws 9)).heap[w.heap.size]? = some (.cells #[.slice none 0 0, .int .i64 0] 45 (0, 0)) := by
    rw [Lib.alloc_old _ _ _ (by simp)]; exact heap_alloc_new w _
  rw [Lib.cell_of_heap h, Lib.cell_of_heap h]
  exact ⟨rfl, rfl⟩
set_option maxHeartbeats 2000000 in
set_option maxRecDepth 100000 in
theorem scan_any (line : ByteArray) (hl : line.size ≤ 100000) (w : World) (hE : Env2 w) : Calls Tryz.prog 26 #[.string line] w fun e w' => ∃ ao n c t, e = .returned (.tuple #[.agg #[.slice ao n c, .int .i64 t], .bool (scanOk line)]) ∧ Below w.heap.size w w' := by
  obtain ⟨i00, hi, hz0, hz1, hz2⟩ := info_parts info3
  obtain ⟨m, hm⟩ := hE.most
  have h9 := hE.size
  have hm2 : (w.alloc (.cells #[.slice none 0 0, .int .i64 0] 45)).cell? ⟨1, 0, none⟩ = some (.int .i64 m) := by rw [World.cell?_alloc_lt _ _ ⟨1, 0, none⟩ (by simp; omega)]; exact hm
  have hs := Tryz.strings_Split line ⟨#[32]⟩ m _ (by omega) hm2 (by decide)
  obtain ⟨w0, r, hwr⟩ : ∃ w0 r, wordsOf line = w0 :: r := by
    cases h : wordsOf line with
    | nil => have := words_len line; rw [h] at this; simp at this
    | cons a b => exact ⟨a, b, rfl⟩
  have hq : Lib.countB line ⟨#[32]⟩ = r.length := by have := words_len line; rw [hwr] at this; simp at this; omega
  rw [hq, show Lib.splitB ⟨#[32]⟩ 0 r.length line = w0 :: r by rw [← hq]; exact hwr] at hs
  have hok : scanOk line = (w0.toList == [115, 99, 97, 110] && decide (1 ≤ r.length) && decide (r.length ≤ 17) && r.all fun x => (numOf x).isSome) := by unfold scanOk; rw [hwr]
  have HE := Lib.hid hE
  clear hE hwr hq
  obtain ⟨q, hqq⟩ : ∃ q, r.length = q := ⟨_, rfl⟩
  rw [hqq] at hs hok
  generalize hws : ((w0 :: r).map Value.string).toArray = ws at hs
  have hw0 : ws[0]? = some (.string w0) := by rw [← hws]; rfl
  have hwk : ∀ k (h : k < r.length), ws[k + 1]? = some (.string (r[k]'h)) := fun k h => by rw [← hws]; simp [h]
  have HWS := Lib.hid hws
  have HWK := Lib.hid hwk
  clear hws hwk
  have hS := Sc.start w ws
  have hcw : ((w.alloc (.cells #[.slice none 0 0, .int .i64 0] 45)).alloc (.cells ws 9)).cell? ⟨w.heap.size + 1, 0, none⟩ = some (.string w0) := by
    have := heap_alloc_new (w.alloc (.cells #[.slice none 0 0, .int .i64 0] 45)) (.cells ws 9)
    rw [size_alloc0] at this
    rw [Lib.cell_of_heap this]
    exact hw0
  by_cases hscan : w0.toList = [115, 99, 97, 110]
  · have b0 : (w0.toList == [115, 99, 97, 110]) = true := by rw [hscan]; rfl
    by_cases hq1 : q < 1
    · have hf : scanOk line = false := by rw [hok]; simp; omega
      have d1 : decide ((q : Int) + 1 < 2) = true := decide_eq_true (by omega)
      rw [hf]
      clear hok hf
      go_enter Tryz.func26, Tryz.ntmps26
      go_wp2_with (go_at_call 40; refine hs.mono ?_; rintro e w' ⟨rfl, rfl⟩)
      obtain ⟨a0, a1⟩ := zero_cells w ws
      have hb := ((Below.refl w.heap.size w).alloc (Nat.le_refl _) (.cells #[.slice none 0 0, .int .i64 0] 45)).alloc (by simp) (.cells ws 9)
      clear hs hm2 hS hcw
      generalize ((w.alloc (.cells #[.slice none 0 0, .int .i64 0] 45)).alloc (.cells ws 9)) = W1 at *
      refine bodyPost_ret (by simp [results, Tryz.results26, go_sem, a0, a1]; try rfl) rfl ?_
      exact ⟨_, _, _, _, rfl, hb⟩
    · by_cases hq2 : 17 < q
      · have hf : scanOk line = false := by rw [hok]; simp; omega
        have d1 : decide ((q : Int) + 1 < 2) = false := decide_eq_false (by omega)
        have d2 : decide (18 < (q : Int) + 1) = true := decide_eq_true (by omega)
        rw [hf]
        clear hok hf
        go_enter Tryz.func26, Tryz.ntmps26
        go_wp2_with (go_at_call 40; refine hs.mono ?_; rintro e w' ⟨rfl, rfl⟩)
        obtain ⟨a0, a1⟩ := zero_cells w ws
        have hb := ((Below.refl w.heap.size w).alloc (Nat.le_refl _) (.cells #[.slice none 0 0, .int .i64 0] 45)).alloc (by simp) (.cells ws 9)
        clear hs hm2 hS hcw
        generalize ((w.alloc (.cells #[.slice none 0 0, .int .i64 0] 45)).alloc (.cells ws 9)) = W1 at *
        refine bodyPost_ret (by simp [results, Tryz.results26, go_sem, a0, a1]; try rfl) rfl ?_
        exact ⟨_, _, _, _, rfl, hb⟩
      · have hf : scanOk line = r.all fun x => (numOf x).isSome := by rw [hok, b0]; simp; omega
        have d1 : decide ((q : Int) + 1 < 2) = false := decide_eq_false (by omega)
        have d2 : decide (18 < (q : Int) + 1) = false := decide_eq_false (by omega)
        rw [hf]
        clear hok hf
        generalize hR : (r.all fun x => (numOf x).isSome) = R
        have HR := Lib.hid hR
        clear hR
        go_enter Tryz.func26, Tryz.ntmps26
        go_wp2_with (go_at_call 40; refine hs.mono ?_; rintro e w' ⟨rfl, rfl⟩)
        clear hs hm2 hm hcw d1 d2 hw0
        generalize (((w.alloc (.cells #[.slice none 0 0, .int .i64 0] 45)).alloc (.cells ws 9)).alloc (.cells #[.slice none 0 0, .int .i64 0] 45)) = W0 at *
        generalize hA : w.heap.size = A at *
        go_loopw [30] (fun i wr => ∃ (k : Nat) (v : Value) (m : Nat) (xs : List Value) (t : Int), k ≤ q ∧ i = .int .i64 k ∧ m ≤ k ∧ Sc w wr A ws v t ∧ wr.ownsRow (A + 3) 3 1 v m xs ∧ (∀ j (h : j < r.length), j < k → (numOf (r[j]'h)).isSome = true)) (fun i _ => q - (intOf i).toNat)
        case atStart => exact ⟨0, .slice none 0 0, 0, [], 0, Nat.zero_le _, rfl, Nat.le_refl _, hS, World.ownsRow_nil _ _ _ _, fun j _ hj => absurd hj (Nat.not_lt_zero j)⟩
        case round =>
          clear hS
          obtain ⟨k, v, m, xs, t, hk, rfl, hmk, hS, hown, hgd⟩ := hrel
          have HS := Lib.hid hS
          have HO := Lib.hid hown
          have HG := Lib.hid hgd
          obtain ⟨cw, c0, c1, f0, f1, a0, a1, g0, g1⟩ := hS.cells
          by_cases hlt : k < q
          · have hkr : k < r.length := by omega
            have e0 := (cw (k + 1)).trans (HWK.out k hkr)
            have e0' : wr.cell? ⟨A + 1, 1 + k, none⟩ = some (.string (r[k]'hkr)) := by rw [Nat.add_comm 1 k]; exact e0

            have i0 : (k : Int) < (q : Int) := by omega
            have i1 : (0 : Int) ≤ (k : Int) := by omega
            obtain ⟨x, hx⟩ : ∃ x, r[k]'hkr = x := ⟨_, rfl⟩
            rw [hx] at e0 e0'
            have HX := Lib.hid hx
            clear hS hown hgd cw hx
            go_wp2_with (go_at_call 41; refine (number_any x wr (HE.out.keep HS.out.below h9)).mono ?_)
            rintro e W1 ⟨rfl, hb1⟩
            have hS1 := HS.out.to (hb1.mono HS.out.size)
            have hO1 := own_keep (w' := W1) HO.out (fun k hk _ _ => hb1.block k hk)
            have HS1 := Lib.hid hS1
            have HO1 := Lib.hid hO1
            clear hb1 e0 e0' c0 c1 f0 f1 a0 a1 g0 g1 hO1
            obtain ⟨-, c0, c1, f0, f1, a0, a1, g0, g1⟩ := hS1.cells
            clear hS1
            cases hnx : numOf x with
            | none =>
              have hall : (r.all fun x => (numOf x).isSome) = false := by
                rw [List.all_eq_false]
                exact ⟨x, by rw [← HX.out]; exact List.getElem_mem _, by rw [hnx]; simp⟩
              have HALL := Lib.hid (HR.out.symm.trans hall)
              clear hall hnx
              go_wp2_with fail
              have hres := HS1.out.res
              have hr0 := cells_set0 (v := .slice none 0 0) hres
              have hr1' := cells_set1 (v := .int .i64 0) hr0
              have hB9 : Below A w ((W1.setCell ⟨A, 0, none⟩ (.slice none 0 0)).setCell ⟨A, 1, none⟩ (.int .i64 0)) := (HS1.out.below.setCell (p := ⟨A, 0, none⟩) (Nat.le_refl _) _).setCell (p := ⟨A, 1, none⟩) (Nat.le_refl _) _
              generalize ((W1.setCell ⟨A, 0, none⟩ (.slice none 0 0)).setCell ⟨A, 1, none⟩ (.int .i64 0)) = W9 at *
              clear c0 c1 f0 f1 a0 a1 g0 g1 hr0 hres
              have a0 : W9.cell? ⟨A, 0, none⟩ = some (.slice none 0 0) := by rw [Lib.cell_of_heap hr1']; rfl
              have a1 : W9.cell? ⟨A, 1, none⟩ = some (.int .i64 0) := by rw [Lib.cell_of_heap hr1']; rfl
              refine bodyPost_ret (by simp [results, Tryz.results26, go_sem, a0, a1]; try rfl) rfl ?_
              exact ⟨_, _, _, _, by rw [HALL.out], by rw [hA]; exact hB9⟩
            | some n =>
              have hgd' : ∀ j (h : j < r.length), j < k + 1 → (numOf (r[j]'h)).isSome = true := by
                intro j h hj
                rcases Nat.lt_or_ge j k with h' | h'
                · exact HG.out j h h'
                · obtain rfl : j = k := by omega
                  rw [HX.out, hnx]
                  rfl
              have HG' := Lib.hid hgd'
              clear hgd' hnx
              by_cases hk0 : k = 0
              · subst hk0
                go_wp2_with fail
                have hT := HS1.out.ticks n
                have hO := own_keep (w' := W1.setCell ⟨A + 1 + 1, 1, none⟩ (.int .i64 n)) HO1.out (fun k _ hk _ => setCell_other _ _ _ _ _ (by omega))
                exact ⟨⟨1, v, m, xs, n, by omega, by go_num, by omega, hT, hO, HG'.out⟩, by simp [intOf]; omega⟩
              · have e5 : ((k : Int) == 0) = false := by simpa using hk0
                go_wp2_with (at_builtin; refine wpList_append_own _ rfl (.tmp 48) (.tmp 50) 43 rfl (A + 3) 3 i00 (.int .i64 0) 1 8 Tryz.underlying43 hi hz0 hz1 hz2 rfl (by decide) v m xs rfl (HO1.out.alloc _) ⟨W1.heap.size, 0, none⟩ 1 1 [.int .i64 n] rfl rfl ?c1 ?c2 ?c3 ?c4 ?c5 ?_)
                case c1 =>
                  intro j u hj
                  match j, hj with
                  | 0, hj => simp at hj; subst hj; exact cell_last
                case c2 => intro u hu; simp at hu; subst hu; rfl
                case c3 => unfold maxLen; omega
                case c4 => omega
                case c5 => have := HS1.out.size; simp; omega
                intro v2 W2 hown2 hgrow2 _
                have hS2 : Sc w W2 A ws v t := HS1.out.to (((Below.refl (A + 3) W1).alloc HS1.out.size _).grown hgrow2 (by have := HS1.out.size; simp; omega) (fun k hk => own_base HO1.out k hk))
                obtain ⟨r2, k2, rfl, hr2⟩ := own_form hown2 (by omega)
                clear hgrow2 c0 c1 f0 f1 a0 a1 g0 g1
                have HS2 := Lib.hid hS2
                obtain ⟨-, c0, c1, f0, f1, -⟩ := hS2.cells
                clear hS2
                have HO2 := Lib.hid hown2
                clear hown2
                go_wp2_with fail
                have hT := HS2.out.put (.slice (some ⟨r2, 0, none⟩) (m + 1) k2)
                have hO := own_keep (w' := W2.setCell ⟨A + 1 + 1, 0, none⟩ (.slice (some ⟨r2, 0, none⟩) (m + 1) k2)) HO2.out (fun k _ hk _ => setCell_other _ _ _ _ _ (by omega))
                exact ⟨⟨k + 1, _, m + 1, _, t, by omega, by go_num, by omega, hT, hO, HG'.out⟩, by simp [intOf]; omega⟩
          · have hkk : k = q := by omega
            subst hkk
            have hall : (r.all fun x => (numOf x).isSome) = true := by
              rw [List.all_eq_true]
              intro x hx
              obtain ⟨j, hj, rfl⟩ := List.getElem_of_mem hx
              exact HG.out j hj (by omega)
            have HALL := Lib.hid (HR.out.symm.trans hall)
            obtain ⟨ao, vn, vc, rfl⟩ : ∃ ao vn vc, v = .slice ao vn vc := by
              rcases HO.out.2 with ⟨h1, _⟩ | ⟨g, c, _, hv, _⟩
              · exact ⟨_, _, _, h1⟩
              · exact ⟨_, _, _, hv⟩
            clear hS hown hgd cw hall
            go_wp2_with fail
            have hres := HS.out.res
            have hr0 := cells_set0 (v := .slice ao vn vc) hres
            have hr1' := cells_set1 (v := .int .i64 t) hr0
            have hB9 : Below A w ((wr.setCell ⟨A, 0, none⟩ (.slice ao vn vc)).setCell ⟨A, 1, none⟩ (.int .i64 t)) := (HS.out.below.setCell (p := ⟨A, 0, none⟩) (Nat.le_refl _) _).setCell (p := ⟨A, 1, none⟩) (Nat.le_refl _) _
            generalize ((wr.setCell ⟨A, 0, none⟩ (.slice ao vn vc)).setCell ⟨A, 1, none⟩ (.int .i64 t)) = W9 at *
            clear c0 c1 f0 f1 a0 a1 g0 g1 hr0 hres
            have a0 : W9.cell? ⟨A, 0, none⟩ = some (.slice ao vn vc) := by rw [Lib.cell_of_heap hr1']; rfl
            have a1 : W9.cell? ⟨A, 1, none⟩ = some (.int .i64 t) := by rw [Lib.cell_of_heap hr1']; rfl
            refine bodyPost_ret (by simp [results, Tryz.results26, go_sem, a0, a1]; try rfl) rfl ?_
            exact ⟨_, _, _, _, by rw [HALL.out], by rw [hA]; exact hB9⟩


  · have b0 : (w0.toList == [115, 99, 97, 110]) = false := by simpa using hscan
    have hf : scanOk line = false := by rw [hok, b0]; rfl
    rw [hf]
    clear hok hf
    go_enter Tryz.func26, Tryz.ntmps26
    go_wp2_with (go_at_call 40; refine hs.mono ?_; rintro e w' ⟨rfl, rfl⟩)
    obtain ⟨a0, a1⟩ := zero_cells w ws
    have hb := ((Below.refl w.heap.size w).alloc (Nat.le_refl _) (.cells #[.slice none 0 0, .int .i64 0] 45)).alloc (by simp) (.cells ws 9)
    clear hs hm2 hS hcw
    generalize ((w.alloc (.cells #[.slice none 0 0, .int .i64 0] 45)).alloc (.cells ws 9)) = W1 at *
    refine bodyPost_ret (by simp [results, Tryz.results26, go_sem, a0, a1]; try rfl) rfl ?_
    exact ⟨_, _, _, _, rfl, hb⟩
end Go.Proofs.YtjbagjmjbfiddaaGreatDoor
