/-
  The library's stable sort over the numbers of jobs: what it leaves in the row, for at most twenty numbers.
-/
import Derived.Test.YthibbhkjfopjcabBase
import Derived.Test.YthibbhkjfopjcabShelf
import Derived.Lib.OwnBridge
import Derived.Sort.LotA
namespace Go.Proofs.Ythibbhkjfopjcab
open Go.ChangeShapes Go.WideShapes Go.ChangeAt Go.RowKit Go.Sort Go.Lib

/-- a number of a job -/
abbrev Ix (n : Nat) := Fin (n + 1)
def ixV {n : Nat} (i : Ix n) : Value := .int .i64 (i.val : Int)
/-- the jobs' cells: three a job, from where they begin -/
def JobsAt (w : World) (jb off : Nat) (js : List (Int × Int × Int)) : Prop :=
  ∀ i j, js[i]? = some j → w.cell? ⟨jb, off + i * 3, none⟩ = some (.int .i64 j.1) ∧ w.cell? ⟨jb, off + i * 3 + 1, none⟩ = some (.int .i64 j.2.1) ∧ w.cell? ⟨jb, off + i * 3 + 2, none⟩ = some (.int .i64 j.2.2)
def firstOf (js : List (Int × Int × Int)) (i : Nat) : Int := (js.getD i (0, 0, 0)).2.2

/-- the closure of Which: it compares two jobs' priorities -/
theorem closure_any (js : List (Int × Int × Int)) (jb off cap tb : Nat) (i j : Nat) (hi : i < js.length) (hj : j < js.length) (w : World)
    (hbox : w.cell? ⟨tb, 0, none⟩ = some (.slice (some ⟨jb, off, none⟩) js.length cap)) (hjs : JobsAt w jb off js) :
    Calls Try.prog 13 #[.int .i64 (i : Int), .int .i64 (j : Int), .pointer (some ⟨tb, 0, none⟩)] w fun e w' => e = .returned (.int .i64 (cmpI (firstOf js i) (firstOf js j))) ∧ ∃ n, w' = w.drewN n := by
  have ci := (hjs i js[i] (List.getElem?_eq_getElem hi)).2.2
  have cj := (hjs j js[j] (List.getElem?_eq_getElem hj)).2.2
  have ei : firstOf js i = js[i].2.2 := by simp [firstOf, List.getD, List.getElem?_eq_getElem hi]
  have ej : firstOf js j = js[j].2.2 := by simp [firstOf, List.getD, List.getElem?_eq_getElem hj]
  rw [ei, ej]
  generalize js[i].2.2 = fi at ci ⊢
  generalize js[j].2.2 = fj at cj ⊢
  have i0 : (0 : Int) ≤ (i : Int) := by omega
  have i1 : (i : Int) < (js.length : Int) := by omega
  have j0 : (0 : Int) ≤ (j : Int) := by omega
  have j1 : (j : Int) < (js.length : Int) := by omega
  clear hjs ei ej hi hj
  go_enter Try.func13, Try.ntmps13
  go_wp2_with fail
  go_quiet ((go_at_call 14; exact Calls.quiet_of (cmp_any _ _ _)))
  go_wp2_with fail
  go_ret
  exact ⟨rfl, _, rfl⟩

theorem JobsAt.other {w w' : World} {jb off : Nat} {js : List (Int × Int × Int)} (h : JobsAt w jb off js) (hk : ∀ a : Addr, a.block = jb → w'.cell? a = w.cell? a) : JobsAt w' jb off js :=
  fun i j hij => ⟨(hk _ rfl).trans (h i j hij).1, (hk _ rfl).trans (h i j hij).2.1, (hk _ rfl).trans (h i j hij).2.2⟩

/-- how two jobs' numbers are compared -/
def cf {N : Nat} (js : List (Int × Int × Int)) (x y : Ix N) : Int := cmpI (firstOf js x.val) (firstOf js y.val)

theorem reads {N : Nat} (js : List (Int × Int × Int)) (hl : js.length = N + 1) (jb off cap tb blk size : Nat) (w : World) (hjb : jb < w.heap.size) (htb : tb < w.heap.size) (n1 : jb ≠ blk) (n2 : tb ≠ blk)
    (hbox : w.cell? ⟨tb, 0, none⟩ = some (.slice (some ⟨jb, off, none⟩) js.length cap)) (hjs : JobsAt w jb off js) :
    CmpReads Try.prog 13 #[.pointer (some ⟨tb, 0, none⟩)] (ixV (n := N)) (cf js) blk 0 size w := by
  intro m os dk _ x y
  have hz : ∀ k, (putRow (ixV (n := N)) (Sort.ahead w m) blk 0 dk).heap.size = k → w.heap.size = k := fun k hk => by simpa [putRow, mapBlock, Sort.ahead] using hk
  have hsz := (hz _ rfl)
  have hcell : ∀ a : Addr, a.block ≠ blk → a.block < w.heap.size → (sortWorld (ixV (n := N)) w blk 0 m dk os).cell? a = w.cell? a := fun a h1 h2 => by
    unfold sortWorld
    rw [cell?_grow _ _ _ (by omega), cell?_putRow_other _ _ _ _ _ _ (.inl h1)]
    rfl
  exact closure_any js jb off cap tb x.val y.val (by omega) (by omega) _ ((hcell _ n2 htb).trans hbox) (hjs.other fun a ha => hcell a (by rw [ha]; exact n1) (by rw [ha]; exact hjb))

set_option maxRecDepth 100000 in
theorem stable_any {N : Nat} (js : List (Int × Int × Int)) (hl : js.length = N + 1) (jb off cap tb blk c2 : Nat) (d : Array (Ix N)) (hd0 : 0 < d.size) (hd : d.size ≤ 19) (w : World) (hjb : jb < w.heap.size) (htb : tb < w.heap.size) (n1 : jb ≠ blk) (n2 : tb ≠ blk)
    (hbox : w.cell? ⟨tb, 0, none⟩ = some (.slice (some ⟨jb, off, none⟩) js.length cap)) (hjs : JobsAt w jb off js) (hH : Holds (ixV (n := N)) w blk 0 d) :
    Calls Try.prog 15 #[.slice (some ⟨blk, 0, none⟩) d.size c2, .int .i64 (d.size : Int), .func (.func 13) #[] #[.pointer (some ⟨tb, 0, none⟩)]] w fun e w' => e = .returned (.tuple #[]) ∧ ∃ n, w' = (putRow (ixV (n := N)) w blk 0 (insertionSort (ltOf (cf js)) d 0 d.size)).drewN n := by
  have eg : ∀ args w, (callFunc 13 args).run Try.prog w = .ok (.enter 13 args) w := enters_of Try.func13 (by kernel_rfl) rfl
  have hc := Any.insertionSortCmpFunc_one Try.laysIns (ixV (n := N)) (fun _ => rfl) (cf js) 13 #[.pointer (some ⟨tb, 0, none⟩)] blk 0 c2 0 d.size d w eg (reads js hl jb off cap tb blk d.size w hjb htb n1 n2 hbox hjs) hH (by omega) (by omega) (by omega)
  have HC := Lib.hid hc
  clear hc hbox hjs hH eg
  have h1 : (d.size : Int) ≤ 19 := by omega
  have h0 : (0 : Int) < (d.size : Int) := by omega
  go_enter Try.func15, Try.ntmps15
  go_wp2_with fail
  refine wp_loop_rounds 1 ?_
  rw [rounds_succ]
  go_wp2_with fail
  refine HC.out.mono ?_
  rintro e w1 ⟨rfl, n, rfl⟩
  go_wp2_with fail
  refine wp_loop_rounds 1 ?_
  rw [rounds_succ]
  go_wp2_with fail
  go_end0
  exact ⟨rfl, n, rfl⟩

theorem lt_iff {N : Nat} (js : List (Int × Int × Int)) (x y : Ix N) : ltOf (cf js) x y = decide (firstOf js x.val < firstOf js y.val) := by
  unfold ltOf cf cmpI
  congr 1
  (repeat' split) <;> simp <;> omega
theorem swo {N : Nat} (js : List (Int × Int × Int)) : SWO (ltOf (cf (N := N) js)) :=
  ⟨fun x => by rw [lt_iff]; simp, fun x y z h1 h2 => by rw [lt_iff] at *; simp at *; omega, fun x y z h1 h2 => by rw [lt_iff] at *; simp at *; omega⟩
theorem sorted_size {N : Nat} (js : List (Int × Int × Int)) (d : Array (Ix N)) (n : Nat) (hn : n ≤ d.size) : (insertionSort (ltOf (cf js)) d 0 n).size = d.size :=
  ((insertionSort_holds (swo js) d 0 n (by omega) hn).1).1

theorem ins_none {α : Type} [Inhabited α] (lt : α → α → Bool) (d : Array α) (a : Nat) : insertionSort lt d a a = d := by
  unfold insertionSort insOuter
  rw [if_neg (by omega)]

set_option maxRecDepth 100000 in
theorem stable_20 {N : Nat} (js : List (Int × Int × Int)) (hl : js.length = N + 1) (jb off cap tb blk c2 : Nat) (d : Array (Ix N)) (hd : d.size = 20) (w : World) (hjb : jb < w.heap.size) (htb : tb < w.heap.size) (n1 : jb ≠ blk) (n2 : tb ≠ blk)
    (hbox : w.cell? ⟨tb, 0, none⟩ = some (.slice (some ⟨jb, off, none⟩) js.length cap)) (hjs : JobsAt w jb off js) (hH : Holds (ixV (n := N)) w blk 0 d) :
    Calls Try.prog 15 #[.slice (some ⟨blk, 0, none⟩) 20 c2, .int .i64 20, .func (.func 13) #[] #[.pointer (some ⟨tb, 0, none⟩)]] w fun e w' => e = .returned (.tuple #[]) ∧ ∃ n, w' = (putRow (ixV (n := N)) w blk 0 (insertionSort (ltOf (cf js)) d 0 20)).drewN n := by
  have eg : ∀ args w, (callFunc 13 args).run Try.prog w = .ok (.enter 13 args) w := enters_of Try.func13 (by kernel_rfl) rfl
  have hs1 : (insertionSort (ltOf (cf js)) d 0 20).size = 20 := by rw [sorted_size _ _ _ (by omega), hd]
  have hc := Any.insertionSortCmpFunc_one Try.laysIns (ixV (n := N)) (fun _ => rfl) (cf js) 13 #[.pointer (some ⟨tb, 0, none⟩)] blk 0 c2 0 20 d w eg (reads js hl jb off cap tb blk d.size w hjb htb n1 n2 hbox hjs) hH (by omega) (by omega) (by omega)
  rw [hd] at hc
  have hc2 : ∀ n, Calls Try.prog 17 #[.slice (some ⟨blk, 0, none⟩) 20 c2, .int .i64 20, .int .i64 20, .func (.func 13) #[] #[.pointer (some ⟨tb, 0, none⟩)]] ((putRow (ixV (n := N)) w blk 0 (insertionSort (ltOf (cf js)) d 0 20)).drewN n) fun e w' => e = .returned (.tuple #[]) ∧ ∃ m, w' = (putRow (ixV (n := N)) w blk 0 (insertionSort (ltOf (cf js)) d 0 20)).drewN m := fun n => by
    have hH1 : Holds (ixV (n := N)) ((putRow (ixV (n := N)) w blk 0 (insertionSort (ltOf (cf js)) d 0 20)).drewN n) blk 0 (insertionSort (ltOf (cf js)) d 0 20) := holds_putRow _ _ _ _ _ _ hH (by omega)
    have hk : ∀ a : Addr, a.block ≠ blk → ((putRow (ixV (n := N)) w blk 0 (insertionSort (ltOf (cf js)) d 0 20)).drewN n).cell? a = w.cell? a := fun a ha => cell?_putRow_other _ _ _ _ _ _ (.inl ha)
    have hz : ((putRow (ixV (n := N)) w blk 0 (insertionSort (ltOf (cf js)) d 0 20)).drewN n).heap.size = w.heap.size := by simp [putRow, mapBlock, World.drewN]
    have := Any.insertionSortCmpFunc_one Try.laysIns (ixV (n := N)) (fun _ => rfl) (cf js) 13 #[.pointer (some ⟨tb, 0, none⟩)] blk 0 c2 20 20 (insertionSort (ltOf (cf js)) d 0 20) _ eg
      (reads js hl jb off cap tb blk _ _ (by rw [hz]; exact hjb) (by rw [hz]; exact htb) n1 n2 ((hk _ n2).trans hbox) (hjs.other fun a ha => hk a (by rw [ha]; exact n1))) hH1 (by omega) (by omega) (by omega)
    rw [hs1, ins_none, putRow_self _ _ _ _ _ hH1] at this
    exact this.mono fun e w' ⟨he, m, hm⟩ => ⟨he, n + m, by rw [hm, World.drewN_drewN]⟩
  have HC := Lib.hid hc
  have HC2 := Lib.hid hc2
  clear hc hbox hjs hH eg hc2 hs1
  go_enter Try.func15, Try.ntmps15
  go_wp2_with fail
  refine wp_loop_rounds 2 ?_
  rw [rounds_succ]
  go_wp2_with fail
  refine HC.out.mono ?_
  rintro e w1 ⟨rfl, n, rfl⟩
  go_wp2_with fail
  rw [rounds_succ]
  go_wp2_with fail
  refine (HC2.out n).mono ?_
  rintro e w1 ⟨rfl, m, rfl⟩
  go_wp2_with fail
  refine wp_loop_rounds 1 ?_
  rw [rounds_succ]
  go_wp2_with fail
  go_end0
  exact ⟨rfl, m, rfl⟩

/-- slices.SortStableFunc, at most twenty numbers -/
theorem sort_any {N : Nat} (js : List (Int × Int × Int)) (hl : js.length = N + 1) (jb off cap tb blk c2 : Nat) (d : Array (Ix N)) (hd0 : 0 < d.size) (hd : d.size ≤ 20) (w : World) (hjb : jb < w.heap.size) (htb : tb < w.heap.size) (n1 : jb ≠ blk) (n2 : tb ≠ blk)
    (hbox : w.cell? ⟨tb, 0, none⟩ = some (.slice (some ⟨jb, off, none⟩) js.length cap)) (hjs : JobsAt w jb off js) (hH : Holds (ixV (n := N)) w blk 0 d) :
    Calls Try.prog 12 #[.slice (some ⟨blk, 0, none⟩) d.size c2, .func (.func 13) #[] #[.pointer (some ⟨tb, 0, none⟩)]] w fun e w' => e = .returned (.tuple #[]) ∧ ∃ n, w' = (putRow (ixV (n := N)) w blk 0 (insertionSort (ltOf (cf js)) d 0 d.size)).drewN n := by
  have hc : Calls Try.prog 15 #[.slice (some ⟨blk, 0, none⟩) d.size c2, .int .i64 (d.size : Int), .func (.func 13) #[] #[.pointer (some ⟨tb, 0, none⟩)]] w fun e w' => e = .returned (.tuple #[]) ∧ ∃ n, w' = (putRow (ixV (n := N)) w blk 0 (insertionSort (ltOf (cf js)) d 0 d.size)).drewN n := by
    by_cases h : d.size = 20
    · have := stable_20 js hl jb off cap tb blk c2 d h w hjb htb n1 n2 hbox hjs hH
      rw [h]; exact this
    · exact stable_any js hl jb off cap tb blk c2 d hd0 (by omega) w hjb htb n1 n2 hbox hjs hH
  have HC := Lib.hid hc
  clear hc hbox hjs hH
  go_enter Try.func12, Try.ntmps12
  go_wp2_with fail
  refine HC.out.mono ?_
  rintro e w1 ⟨rfl, n, rfl⟩
  go_wp2_with fail
  go_end0
  exact ⟨rfl, n, rfl⟩
end Go.Proofs.Ythibbhkjfopjcab
