/-
  Which: the numbers of the jobs that are due, in order: its contract, for at most twenty jobs.
-/
import Derived.Test.YthibbhkjfopjcabSort
namespace Go.Proofs.Ythibbhkjfopjcab
open Go.ChangeShapes Go.WideShapes Go.ChangeAt Go.RowKit Go.Sort Go.Lib

theorem info3 : (Try.prog.info? 3).map (fun i => (i.zero, i.size, i.bytes)) = some (some (.int .i64 0), 1, 8) := by kernel_rfl

def everyOf (js : List (Int × Int × Int)) (i : Nat) : Int := (js.getD i (0, 0, 0)).2.1
/-- the numbers below k of the jobs that are due -/
def gath {N : Nat} (js : List (Int × Int × Int)) (b a : Int) : Nat → List (Ix N)
  | 0 => []
  | k + 1 => gath js b a k ++ (if h : k < N + 1 then (if dueB (everyOf js k) b a then [⟨k, h⟩] else []) else [])
theorem gath_le {N : Nat} (js : List (Int × Int × Int)) (b a : Int) : ∀ k, (gath (N := N) js b a k).length ≤ k
  | 0 => Nat.le_refl _
  | k + 1 => by
    have := gath_le (N := N) js b a k
    unfold gath
    rw [List.length_append]
    (repeat' split) <;> simp <;> omega

theorem owns_later {w : World} {base : Nat} {e : TypeId} {size : Nat} {v : Value} {n : Nat} {xs : List Value} {o1 o2 : Obj} {q : Nat} (h : w.ownsRow base e size v n xs) : (((w.alloc o1).alloc o2).drewN q).ownsRow base e size v n xs := (h.alloc o1).alloc o2

theorem gath_hit {N : Nat} (js : List (Int × Int × Int)) (b a : Int) (k : Nat) (hk : k < N + 1) (h : dueB (everyOf js k) b a = true) : gath (N := N) js b a (k + 1) = gath js b a k ++ [⟨k, hk⟩] := by
  rw [gath, dif_pos hk, if_pos h]
theorem gath_miss {N : Nat} (js : List (Int × Int × Int)) (b a : Int) (k : Nat) (h : dueB (everyOf js k) b a = false) : gath (N := N) js b a (k + 1) = gath js b a k := by
  rw [gath, h]; simp
theorem own_base {w : World} {base : Nat} {e : TypeId} {size : Nat} {v : Value} {n : Nat} {xs : List Value} (h : w.ownsRow base e size v n xs) : ∀ k, v.ownBlock = some k → base ≤ k := by
  intro k hk
  rcases h.2 with ⟨rfl, _⟩ | ⟨g, cap, cur, rfl, hb, _⟩
  · simp [Value.ownBlock] at hk
  · have : g = k := by simpa [Value.ownBlock] using hk
    omega
theorem own_mono {w : World} {base base' : Nat} {e : TypeId} {size : Nat} {v : Value} {n : Nat} {xs : List Value} (h : w.ownsRow base e size v n xs) (hb : base' ≤ base) : w.ownsRow base' e size v n xs := by
  refine ⟨h.1, ?_⟩
  rcases h.2 with h1 | ⟨g, cap, cur, h1, h2, h3⟩
  · exact .inl h1
  · exact .inr ⟨g, cap, cur, h1, by omega, h3⟩

theorem cell_new2 {w : World} {o1 : Obj} {q : Nat} {x : Value} {t : TypeId} : (((w.alloc o1).drewN q).alloc (.cells #[x] t)).cell? (Addr.add ⟨w.heap.size + 1, 0, none⟩ 0) = some x := by
  have h := heap_new (w := (w.alloc o1).drewN q) (o := .cells #[x] t) (g := w.heap.size + 1) (by simp)
  show (((w.alloc o1).drewN q).alloc (.cells #[x] t)).cell? ⟨w.heap.size + 1, 0, none⟩ = some x
  unfold World.cell?
  simp only [h]
  rfl
/-- behind the append -/
theorem rel_hit {N : Nat} {js : List (Int × Int × Int)} {b a : Int} {k B : Nat} (hk : k < N + 1) (hd : dueB (everyOf js k) b a = true) {w0 wr w1 : World} {u v' : Value} {o1 o2 : Obj} {q : Nat} (hB : B + 1 ≤ wr.heap.size)
    (hown : wr.ownsRow (B + 1) 3 1 u (gath (N := N) js b a k).length ((gath (N := N) js b a k).map ixV)) (hbl : RowKit.Below (B + 1) w0 wr)
    (hown1 : w1.ownsRow (B + 1) 3 1 v' ((gath (N := N) js b a k).length + 1) ((gath (N := N) js b a k).map ixV ++ [.int .i64 (k : Int)])) (hgrow : (((wr.alloc o1).drewN q).alloc o2).grownBy w1 u.ownBlock) :
    w1.ownsRow (B + 1) 3 1 v' (gath (N := N) js b a (k + 1)).length ((gath (N := N) js b a (k + 1)).map ixV) ∧ RowKit.Below (B + 1) w0 w1 ∧ (gath (N := N) js b a (k + 1) = [] → v' = .slice none 0 0) := by
  rw [gath_hit js b a k hk hd]
  refine ⟨?_, ?_, fun h => absurd h (by simp)⟩
  · rw [List.length_append, List.map_append]
    exact hown1
  · have h1 : RowKit.Below (B + 1) w0 (((wr.alloc o1).drewN q).alloc o2) := by
      have h0 := hbl.alloc hB o1
      have h2 : RowKit.Below (B + 1) w0 ((wr.alloc o1).drewN q) := ⟨h0.os, h0.tape, h0.output, h0.size, h0.block⟩
      exact h2.alloc (by simp; omega) o2
    exact h1.grown hgrow (by simp; omega) (own_base hown)

theorem sort_nil (fn : Value) (w : World) (f : FuncId) (cb : Array Value) (hfn : fn = .func (.func f) #[] cb) : Calls Try.prog 12 #[.slice none 0 0, fn] w fun e w' => e = .returned (.tuple #[]) ∧ w = w' := by
  subst hfn
  go_enter Try.func12, Try.ntmps12
  go_wp2_with fail
  go_in
  go_wp2_with fail
  refine wp_loop_rounds 1 ?_
  rw [rounds_succ]
  go_wp2_with fail
  go_in
  go_wp2_with fail
  refine wp_loop_rounds 1 ?_
  rw [rounds_succ]
  go_wp2
  refine wp_loop_rounds 1 ?_
  rw [rounds_succ]
  go_wp2
  go_end0
  exact ⟨rfl, rfl⟩

theorem call_sort {N : Nat} (js : List (Int × Int × Int)) (hl : js.length = N + 1) (hN : N + 1 ≤ 20) (jb off cap : Nat) (b a : Int) (w wr : World) (hjb : jb < w.heap.size) (hjs : JobsAt w jb off js) (u : Value)
    (hown : wr.ownsRow (w.heap.size + 1) 3 1 u (gath (N := N) js b a (N + 1)).length ((gath (N := N) js b a (N + 1)).map ixV)) (hbl : RowKit.Below (w.heap.size + 1) (w.alloc (.cells #[.slice (some ⟨jb, off, none⟩) js.length cap] 22)) wr)
    (hnil : gath (N := N) js b a (N + 1) = [] → u = .slice none 0 0) :
    Calls Try.prog 12 #[u, .func (.func 13) #[] #[.pointer (some ⟨w.heap.size, 0, none⟩)]] wr fun e w' => e = .returned (.tuple #[]) ∧
      w'.ownsRow w.heap.size 3 1 u (gath (N := N) js b a (N + 1)).length ((insertionSort (ltOf (cf js)) (gath (N := N) js b a (N + 1)).toArray 0 (gath (N := N) js b a (N + 1)).length).toList.map ixV) ∧ RowKit.Below w.heap.size w w' := by
  have hle := gath_le (N := N) js b a (N + 1)
  have hbw : RowKit.Below w.heap.size w wr := ((RowKit.Below.refl _ w).alloc (Nat.le_refl _) _).trans (hbl.mono (by omega))
  have hz := hbl.size
  simp only [World.size_alloc] at hz
  by_cases he : gath (N := N) js b a (N + 1) = []
  · obtain rfl := hnil he
    refine (sort_nil _ wr 13 _ rfl).mono ?_
    rintro e w' ⟨rfl, rfl⟩
    refine ⟨rfl, ?_, hbw⟩
    rw [he] at hown ⊢
    rw [List.length_nil, ins_none]
    exact own_mono hown (by omega)
  · have hlen : 0 < (gath (N := N) js b a (N + 1)).length := List.length_pos_iff.2 he
    have hne : u ≠ .slice none 0 0 := by
      rintro rfl
      rcases hown.2 with ⟨_, h0⟩ | ⟨g, c, cur, h0, _⟩
      · simp at h0; exact he h0
      · cases h0
    obtain ⟨g, cap2, rfl, hg, hgs, _, _, _, hH⟩ := holds_of_ownsRow hown hne
    have hcell : ∀ p : Addr, p.block < w.heap.size → wr.cell? p = w.cell? p := fun p hp => hbw.cell hp
    have hbox : wr.cell? ⟨w.heap.size, 0, none⟩ = some (.slice (some ⟨jb, off, none⟩) js.length cap) := by
      refine (hbl.cell (p := ⟨w.heap.size, 0, none⟩) (by simp)).trans ?_
      have h := heap_new (w := w) (o := .cells #[.slice (some ⟨jb, off, none⟩) js.length cap] 22) (g := w.heap.size) rfl
      unfold World.cell?
      simp only [h]
      rfl
    have hs := sort_any js hl jb off cap w.heap.size g cap2 (gath (N := N) js b a (N + 1)).toArray (by simpa using hlen) (by simp; omega) wr (by omega) (by omega) (by omega) (by omega) hbox
      (hjs.other fun p hp => hcell p (by rw [hp]; exact hjb)) hH
    simp only [List.size_toArray] at hs
    refine hs.mono ?_
    rintro e w' ⟨rfl, n, rfl⟩
    have hsz := sorted_size js (gath (N := N) js b a (N + 1)).toArray (gath (N := N) js b a (N + 1)).length (by simp)
    have hsl : (insertionSort (ltOf (cf js)) (gath (N := N) js b a (N + 1)).toArray 0 (gath (N := N) js b a (N + 1)).length).toList.length = (gath (N := N) js b a (N + 1)).length := by simpa using hsz
    refine ⟨rfl, ?_, ?_⟩
    · have h := ownsRow_putRow (q := 0) (ys := (insertionSort (ltOf (cf js)) (gath (N := N) js b a (N + 1)).toArray 0 (gath (N := N) js b a (N + 1)).length).toList) hown hsl (Nat.le_refl _)
      rw [List.take_of_length_le (by omega)] at h
      exact own_mono h (by omega)
    · have h := below_putRow (enc := ixV (n := N)) (q := 0) (d := insertionSort (ltOf (cf js)) (gath (N := N) js b a (N + 1)).toArray 0 (gath (N := N) js b a (N + 1)).length) hbw (g := g) (by omega)
      exact ⟨h.os, h.tape, h.output, h.size, h.block⟩

set_option maxRecDepth 100000 in
set_option maxHeartbeats 1000000 in
theorem which_some {N : Nat} (js : List (Int × Int × Int)) (hl : js.length = N + 1) (hN : N + 1 ≤ 20) (jb off cap : Nat) (b a : Int) (hma : a ≤ 9223372036854775807) (w : World) (hjb : jb < w.heap.size) (hjs : JobsAt w jb off js) :
    Calls Try.prog 7 #[.slice (some ⟨jb, off, none⟩) js.length cap, .int .i64 b, .int .i64 a] w fun e w' => ∃ v, e = .returned v ∧
      w'.ownsRow w.heap.size 3 1 v (gath (N := N) js b a (N + 1)).length ((insertionSort (ltOf (cf js)) (gath (N := N) js b a (N + 1)).toArray 0 (gath (N := N) js b a (N + 1)).length).toList.map ixV) ∧ Below w.heap.size w w' := by
  obtain ⟨i0, hi, hz0, hz1, hz2⟩ := info_parts info3
  have HJ := Lib.hid hjs
  have HL := Lib.hid hl
  have hn20 : js.length ≤ 20 := by omega
  clear hjs hl hN
  go_enter Try.func7, Try.ntmps7
  go_wp2_with fail
  go_loopw [7, 12] (fun v i wr => ∃ k : Nat, k ≤ js.length ∧ i = .int .i64 k ∧ wr.ownsRow (w.heap.size + 1) 3 1 v (gath (N := N) js b a k).length ((gath (N := N) js b a k).map ixV) ∧ Below (w.heap.size + 1) (w.alloc (.cells #[.slice (some ⟨jb, off, none⟩) js.length cap] 22)) wr ∧ (gath (N := N) js b a k = [] → v = .slice none 0 0))
    (fun _ i _ => js.length - (intOf i).toNat)
  case atStart => exact ⟨0, Nat.zero_le _, rfl, World.ownsRow_nil _ _ _ _, RowKit.Below.refl _ _, fun _ => rfl⟩
  case round =>
    obtain ⟨k, hk, rfl, hown, hbl, hnil⟩ := hrel
    have HN := Lib.hid hnil
    clear hnil
    have HB := Lib.hid hbl
    have hz := hbl.size
    simp only [World.size_alloc] at hz
    clear hbl
    by_cases hlt : k < js.length
    · obtain ⟨⟨jc, je, jf⟩, hjk⟩ : ∃ j, js[k]? = some j := ⟨js[k], List.getElem?_eq_getElem hlt⟩
      obtain ⟨c0, c1, c2⟩ := HJ.out k _ hjk
      have hev : everyOf js k = je := by simp [everyOf, List.getD, hjk]
      have hkeep : ∀ p : Addr, p.block = jb → wr.cell? p = w.cell? p := fun p hp => (HB.out.cell (by rw [hp]; omega)).trans (World.cell?_alloc_lt w _ p (by rw [hp]; exact hjb))
      have d0 := (hkeep ⟨jb, off + k * 3, none⟩ rfl).trans c0
      have d1 := (hkeep ⟨jb, off + k * 3 + 1, none⟩ rfl).trans c1
      have d2 := (hkeep ⟨jb, off + k * 3 + 2, none⟩ rfl).trans c2
      clear c0 c1 c2 hkeep
      have HV := Lib.hid hev
      have HK := Lib.hid hjk
      clear hev hjk
      have hown' := Lib.hid hown
      clear hown
      by_cases hdue : dueB je b a = true
      · go_wp2_with (first | (go_at_call 8; refine (due_any _ _ _ hma _).mono ?_; rintro e w1 ⟨rfl, q, rfl⟩) | (at_builtin; refine wpList_append_own _ rfl (.tmp 22) (.tmp 24) 25 rfl (w.heap.size + 1) 3 i0 (.int .i64 0) 1 8 Try.underlying25 hi hz0 hz1 hz2 rfl (by decide) _ _ _ rfl (owns_later hown'.out) ⟨wr.heap.size + 1, 0, none⟩ 1 1 [.int .i64 (k : Int)] rfl rfl ?c1 ?c2 ?c3 ?c4 ?c5 ?_))
        case c1 =>
          intro j u hj
          match j, hj with
          | 0, hj => simp at hj; subst hj; exact cell_new2
        case c2 => intro u hu; simp at hu; subst hu; rfl
        case c3 => have := gath_le (N := N) js b a k; unfold maxLen; omega
        case c4 => have := gath_le (N := N) js b a k; omega
        case c5 => simp; omega
        intro v' w1 hown1 hgrow _
        have R := rel_hit (N := N) (by have := HL.out; omega) (by rw [HV.out]; exact hdue) hz hown'.out HB.out hown1 hgrow
        clear hown1 hgrow hown' d0 d1 d2
        go_wp2
        go_roundw
        case rel => exact ⟨k + 1, by omega, by go_num, R.1, R.2.1, R.2.2⟩
        case measure => simp [intOf]; omega
      · have hd : dueB je b a = false := by simpa using hdue
        go_wp2_with (go_at_call 8; refine (due_any _ _ _ hma _).mono ?_; rintro e w1 ⟨rfl, q, rfl⟩)
        go_roundw
        case rel =>
          refine ⟨k + 1, by omega, by go_num, ?_, ?_, ?_⟩
          · rw [gath_miss js b a k (by rw [HV.out]; exact hd)]; exact hown'.out.alloc _
          · have h0 := HB.out.alloc hz (.cells #[.int .i64 jc, .int .i64 je, .int .i64 jf] 29)
            exact ⟨h0.os, h0.tape, h0.output, h0.size, h0.block⟩
          · rw [gath_miss js b a k (by rw [HV.out]; exact hd)]; exact HN.out
        case measure => simp [intOf]; omega
    · have hkl : k = N + 1 := by have := HL.out; omega
      have HKL := Lib.hid hkl
      clear hkl
      have hmf : ∀ (fn : Fn) (first cap : Array Value) (w : World), (Instr.makeFunc fn first cap).run Try.prog w = .ok (.func fn first cap) w := fun _ _ _ _ => rfl
      have hown' := Lib.hid hown
      clear hown
      go_wp2_with fail
      have hkk := HKL.out
      subst hkk
      refine (call_sort js HL.out (by have := HL.out; omega) jb off cap b a w wr hjb HJ.out _ hown'.out HB.out HN.out).mono ?_
      rintro e w' ⟨rfl, ho, hb⟩
      have HO := Lib.hid ho
      have HBB := Lib.hid hb
      clear ho hb
      go_wp2_with fail
      go_ret
      exact ⟨_, rfl, HO.out, HBB.out⟩
end Go.Proofs.Ythibbhkjfopjcab
