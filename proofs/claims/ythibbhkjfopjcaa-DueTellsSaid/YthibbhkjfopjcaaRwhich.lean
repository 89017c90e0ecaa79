/-
  The document's own Which: those that are due, one put in after the other.
-/
import Derived.Test.YthibbhkjfopjcaaTellsWalk
import Derived.Test.YthibbhkjfopjcaaStep
import Derived.Deep.RegionHeldLaw
import Derived.RegionTactic
namespace Go.Proofs.Ythibbhkjfopjcaa
open Go.ChangeShapes Go.WideShapes Go.ChangeAt Go.RowKit Go.Sort Go.Lib

theorem rdue_is {e b a : Int} {v : Bool} (h : dueB e b a = v) (hma : a ≤ 9223372036854775807) (w : World) : Calls Try.prog 10 #[.int .i64 e, .int .i64 b, .int .i64 a] w fun en w' => en = .returned (.bool v) ∧ ∃ n, w' = w.drewN n := by
  subst h
  exact rdue_any e b a hma w

theorem keepG {B : Nat} {W w w1 : World} {v0 : Value} {n0 : Nat} {xs0 : List Value} {row : Option Nat} (h : w.ownsRow B 3 1 v0 n0 xs0 ∧ RowKit.Below B W w) (hB : B ≤ w.heap.size) (hg : w.grownBy w1 row) (hr : ∀ k, row = some k → B ≤ k ∧ v0.ownBlock ≠ some k) : w1.ownsRow B 3 1 v0 n0 xs0 ∧ RowKit.Below B W w1 := by
  refine ⟨h.1.kept hg ?_, h.2.grown hg hB (fun k hk => (hr k hk).1)⟩
  cases hv : v0.ownBlock with
  | none => exact .inl rfl
  | some k =>
    refine .inr fun e => ?_
    exact (hr k e.symm).2 hv
theorem keepA {B : Nat} {W w : World} {v0 : Value} {n0 : Nat} {xs0 : List Value} (h : w.ownsRow B 3 1 v0 n0 xs0 ∧ RowKit.Below B W w) (hB : B ≤ w.heap.size) (o : Obj) : (w.alloc o).ownsRow B 3 1 v0 n0 xs0 ∧ RowKit.Below B W (w.alloc o) := ⟨h.1.alloc o, h.2.alloc hB o⟩
/-- the new value lies elsewhere than v0 -/
def Apart (B : Nat) (v0 v1 : Value) : Prop := ∀ k, v1.ownBlock = some k → B ≤ k ∧ v0.ownBlock ≠ some k
theorem apart_nil {B : Nat} {v0 : Value} : Apart B v0 (.slice none 0 0) := fun k h => by cases h
theorem Apart.next {B : Nat} {W w : World} {v0 v1 v2 : Value} {n0 : Nat} {xs0 : List Value} (ha : Apart B v0 v1) (h : w.ownsRow B 3 1 v0 n0 xs0 ∧ RowKit.Below B W w) (hB : B ≤ w.heap.size) (hb : v2.ownBlock = v1.ownBlock ∨ v2.ownBlock = some w.heap.size) : Apart B v0 v2 := by
  intro k hk
  rcases hb with hb | hb
  · exact ha k (hb ▸ hk)
  · rw [hb] at hk
    cases hk
    exact ⟨hB, fun e => by have := (h.1.lt _ e).2; omega⟩
theorem below_drew1 {B : Nat} {W w : World} (h : RowKit.Below B W w) : RowKit.Below B W w.drew := ⟨h.os, h.tape, h.output, h.size, h.block⟩
theorem Ints.take {w : World} {A : Option Addr} {n : Nat} {xs : List Int} (h : Ints w A n xs) (p : Nat) (hp : p ≤ n) : Ints w A p (xs.take p) := by
  refine ⟨by rw [List.length_take, h.1]; omega, fun h0 => ?_⟩
  obtain ⟨g, off, e, hc⟩ := h.2 (by omega)
  refine ⟨g, off, e, fun j hj => ?_⟩
  rw [hc j (by omega)]
  simp [List.getD, hj]
theorem Ints.drop {w : World} {g : Nat} {n : Nat} {xs : List Int} (h : Ints w (some ⟨g, 0, none⟩) n xs) (p : Nat) : Ints w (some ⟨g, p, none⟩) (n - p) (xs.drop p) := by
  refine ⟨by rw [List.length_drop, h.1], fun h0 => ?_⟩
  obtain ⟨g', off, e, hc⟩ := h.2 (by omega)
  cases e
  refine ⟨g, p, rfl, fun j hj => ?_⟩
  have := hc (p + j) (by omega)
  rw [Nat.zero_add] at this
  rw [this]
  simp [List.getD]
theorem Ints.dropIf {w : World} {g c : Nat} {n : Nat} {xs : List Int} (h : Ints w (some ⟨g, 0, none⟩) n xs) (hc : n ≤ c) (p : Nat) : Ints w (if c = p then some ⟨g, 0, none⟩ else some ⟨g, p, none⟩) (n - p) (xs.drop p) := by
  split
  · refine ⟨by rw [List.length_drop, h.1], fun h0 => by omega⟩
  · exact h.drop p
theorem ints_one {w : World} {g o : Nat} {x : Int} (h : w.cell? ⟨g, o, none⟩ = some (.int .i64 x)) : Ints w (some ⟨g, o, none⟩) 1 [x] :=
  ⟨rfl, fun _ => ⟨g, o, rfl, fun j hj => by
    obtain rfl : j = 0 := by omega
    exact h⟩⟩
theorem lo_of {js : List (Int × Int × Int)} {xs : List Int} {f : Int} (ho : xs.Pairwise (Ahead js)) (r : Nat) (hr : r < xs.length) (hf : firstOf js (xs.getD r 0).toNat ≤ f) : ∀ i, i < r + 1 → firstOf js (xs.getD i 0).toNat ≤ f := by
  intro i hi
  by_cases e : i = r
  · subst e; exact hf
  · have hlt : i < r := by omega
    have h := List.pairwise_iff_getElem.1 ho i r (by omega) hr hlt
    rw [List.getD, List.getElem?_eq_getElem (by omega), Option.getD_some]
    rw [List.getD, List.getElem?_eq_getElem hr, Option.getD_some] at hf
    unfold Ahead at h
    omega
theorem cell_kept {w w1 : World} {row : Option Nat} {g o : Nat} {x : Value} (hg : w.grownBy w1 row) (h : w.cell? ⟨g, o, none⟩ = some x) (hl : g < w.heap.size) (hr : some g ≠ row) : w1.cell? ⟨g, o, none⟩ = some x := by
  rw [World.cell?_of_block (hg.block g hl hr), h]
theorem own_cap {w : World} {B g n c : Nat} {xs : List Value} (h : w.ownsRow B 3 1 (.slice (some ⟨g, 0, none⟩) n c) n xs) : n ≤ c := by
  rcases h.2 with ⟨h1, _⟩ | ⟨g', cap, cur, h1, _, _, h2, _⟩
  · cases h1
  · cases h1; exact h2
/-- what a predicate that is held through the region must give -/
structure Held (B : Nat) (W : World) (A : Option Addr) (n : Nat) (ys : List Int) (S : World → Prop) (Ap : Value → Prop) : Prop where
  alloc : ∀ {w'} (_ : S w') (o : Obj), S (w'.alloc o)
  drewN : ∀ {w'} (_ : S w') (q : Nat), S (w'.drewN q)
  drew : ∀ {w'} (_ : S w'), S w'.drew
  size : ∀ {w'} (_ : S w'), B ≤ w'.heap.size
  grown : ∀ {w' w1 : World} {v1 : Value} (_ : S w') (_ : Ap v1) (_ : w'.grownBy w1 v1.ownBlock), S w1
  ints : ∀ {w'} (_ : S w'), Ints w' A n ys
  below : ∀ {w'} (_ : S w'), RowKit.Below B W w'
  nil : Ap (.slice none 0 0)
  next : ∀ {w' : World} {v1 v2 : Value} (_ : Ap v1) (_ : S w') (_ : v2.ownBlock = v1.ownBlock ∨ v2.ownBlock = some w'.heap.size), Ap v2
theorem held_mk {B : Nat} {W w : World} {A : Option Addr} {c : Nat} {ys : List Int} (hB' : B ≤ W.heap.size) (h : w.ownsRow B 3 1 (.slice A ys.length c) ys.length (ys.map (Value.int .i64)) ∧ RowKit.Below B W w) : ∃ S Ap, Held B W A ys.length ys S Ap ∧ S w := by
  refine ⟨fun w' => (w'.ownsRow B 3 1 (.slice A ys.length c) ys.length (ys.map (Value.int .i64)) ∧ RowKit.Below B W w') , Apart B (.slice A ys.length c), ?_, h⟩
  have hz : ∀ {w' : World}, RowKit.Below B W w' → B ≤ w'.heap.size := fun h => Nat.le_trans hB' h.size
  exact {
    alloc := fun h o => keepA h (hz h.2) o
    drewN := fun h q => ⟨own_drew h.1 q, below_drew h.2 q⟩
    drew := fun h => ⟨h.1.drew, below_drew1 h.2⟩
    size := fun h => hz h.2
    grown := fun h ha hg => keepG h (hz h.2) hg ha
    ints := fun h => Ints.of_own h.1
    below := fun h => h.2
    nil := apart_nil
    next := fun ha h hb => ha.next h (hz h.2) hb }
theorem round_done {B : Nat} {w3 : World} {v3 : Value} {js : List (Int × Int × Int)} {b a : Int} {k p : Nat} {ys : List Int} (ho : w3.ownsRow B 3 1 v3 (0 + p + 1 + (ys.length - p)) (([] ++ ys.take p ++ [(k : Int)] ++ ys.drop p).map (Value.int .i64)))
    (hw : WhichTo js b a k ys) (hd : dueB (everyOf js k) b a = true) (hp : p ≤ ys.length) (hlo : ∀ i, i < p → firstOf js (ys.getD i 0).toNat ≤ firstOf js k) (hhi : ∀ i, p ≤ i → i < ys.length → firstOf js k < firstOf js (ys.getD i 0).toNat) :
    ∃ zs Ao c, v3 = .slice Ao zs.length c ∧ w3.ownsRow B 3 1 v3 zs.length (zs.map (Value.int .i64)) ∧ WhichTo js b a (k + 1) zs := by
  have hz := hw.hit hd hp hlo hhi
  have e1 : [] ++ ys.take p ++ [(k : Int)] ++ ys.drop p = ys.take p ++ (k : Int) :: ys.drop p := by simp
  have e2 : 0 + p + 1 + (ys.length - p) = (ys.take p ++ (k : Int) :: ys.drop p).length := by rw [List.length_append, List.length_cons, List.length_take, List.length_drop]; omega
  rw [e1, e2] at ho
  refine ⟨ys.take p ++ (k : Int) :: ys.drop p, ?_⟩
  rcases ho.2 with ⟨h1, h2⟩ | ⟨g', cap, cur, h1, _⟩
  · exact ⟨_, _, by rw [h1, h2], ho, hz⟩
  · exact ⟨_, _, h1, ho, hz⟩
set_option maxRecDepth 100000 in
set_option maxHeartbeats 8000000 in
theorem ref_tells : RefTells := by
  intro js A len cap hl h20 b a hma w hjs
  obtain ⟨i0, hi, hz0, hz1, hz2⟩ := info_parts info3
  have HJ := Lib.hid hjs
  have HL := Lib.hid hl
  clear hjs hl
  go_enter Try.func8, Try.ntmps8
  go_wp2_with fail
  go_loopw [7, 8] (fun v i wr => ∃ (k : Nat) (ys : List Int) (Ao : Option Addr) (c : Nat), k ≤ len ∧ i = .int .i64 (k : Int) ∧ v = .slice Ao ys.length c ∧ wr.ownsRow w.heap.size 3 1 v ys.length (ys.map (Value.int .i64)) ∧ WhichTo js b a k ys ∧ RowKit.Below w.heap.size w wr)
    (fun _ i _ => len - (intOf i).toNat)
  case atStart => exact ⟨0, [], none, 0, Nat.zero_le _, rfl, rfl, World.ownsRow_nil _ _ _ _, WhichTo.nil js b a, RowKit.Below.refl _ _⟩
  case round =>
    obtain ⟨k, ys, Ao, c, hk, rfl, rfl, ho, hw, hb⟩ := hrel
    have HO := Lib.hid ho
    have HW := Lib.hid hw
    have HB := Lib.hid hb
    clear ho hw hb
    by_cases hlt : k < len
    · obtain ⟨jb, off, rfl, hjb, hc⟩ := HJ.out (by have := HL.out; omega)
      obtain ⟨⟨jc, je, jf⟩, hjk⟩ : ∃ j, js[k]? = some j := ⟨js[k]'(by have := HL.out; omega), List.getElem?_eq_getElem _⟩
      have c1 : wr.cell? ⟨jb, off + k * 3 + 1, none⟩ = some (.int .i64 je) := (HB.out.cell hjb).trans (hc _ _ hjk).2.1
      have c2 : wr.cell? ⟨jb, off + k * 3 + 2, none⟩ = some (.int .i64 jf) := (HB.out.cell hjb).trans (hc _ _ hjk).2.2
      have hev : everyOf js k = je := by simp [everyOf, List.getD, hjk]
      have hfi : firstOf js k = jf := by simp [firstOf, List.getD, hjk]
      have i1 : (k : Int) < (len : Int) := by omega
      have i0 : (0 : Int) ≤ (k : Int) := by omega
      have HC := Lib.hid hc
      have HV := Lib.hid (And.intro hev (And.intro hfi hjk))
      clear hc hev hfi hjk
      cases hd : dueB je b a with
      | false =>
        go_wp2_with (go_at_call 10; refine (rdue_is hd hma _).mono ?_; rintro e w1 ⟨rfl, q, rfl⟩)
        go_roundw
        case rel => exact ⟨k + 1, ys, Ao, c, by omega, by go_num, rfl, own_drew HO.out _, HW.out.miss (by rw [HV.out.1]; exact hd), below_drew HB.out _⟩
        case measure => simp [intOf]; omega
      | true =>
        have hcn := cnt_le js b a k
        have hyl := HW.out.length
        have hn : ys.length ≤ 20 := by omega
        have HJK := Lib.hid hyl
        clear hyl
        go_wp2_with (go_at_call 10; refine (rdue_is hd hma _).mono ?_; rintro e w1 ⟨rfl, q, rfl⟩)
        go_loopw [9] (fun z wi => ∃ p : Nat, p ≤ ys.length ∧ z = .int .i64 (p : Int) ∧ (∀ i, p ≤ i → i < ys.length → jf < firstOf js (ys.getD i 0).toNat) ∧ ∃ q, wi = wr.drewN q) (fun z _ => (intOf z).toNat)
        case atStart => exact ⟨ys.length, Nat.le_refl _, rfl, fun i h1 h2 => by omega, _, rfl⟩
        case round =>
          obtain ⟨p, hp, rfl, hhi, q1, rfl⟩ := hrel
          have HH := Lib.hid hhi
          clear hhi
          obtain ⟨wq, hwq⟩ : ∃ wq, wq = wr.drewN q1 := ⟨_, rfl⟩
          rw [← hwq]
          have HWQ := Lib.hid hwq
          clear hwq
          have d2 : wq.cell? ⟨jb, off + k * 3 + 2, none⟩ = some (.int .i64 jf) := by rw [HWQ.out]; exact c2
          by_cases hp0 : p = 0
          · have hR0 : wq.ownsRow w.heap.size 3 1 (.slice Ao ys.length c) ys.length (ys.map (Value.int .i64)) ∧ RowKit.Below w.heap.size w wq := by rw [HWQ.out]; exact ⟨own_drew HO.out _, below_drew HB.out _⟩
            rcases Joins.ownsRow_forms HO.out with ⟨hg0, h0⟩ | ⟨g, c', hg⟩
            · obtain ⟨rfl, rfl⟩ : Ao = none ∧ c = 0 := by injection hg0 with h1 _ h2; exact ⟨h1, h2⟩
              have hy : ys = [] := List.eq_nil_of_length_eq_zero h0
              subst hy
              obtain rfl : p = 0 := by omega
              clear hg0 h0
              go_wp2_with fail
              go_quiet (fail)
              go_wp2_with fail
              obtain ⟨S, Ap, HS, hSq⟩ := held_mk (Nat.le_refl _) hR0
              have hD : ∀ q, S (wq.drewN q).drew := fun q => HS.drew (HS.drewN hSq q)
              clear hR0
              go_region_held_law S (first | exact hS3 | exact hS2 | exact hS1 | exact HS.alloc hS1 _ | exact HS.alloc (hD _) _ | exact hD _)
                (first
                  | (refine step_ints (by rfl) (.const (.slice none 0 0)) (.tmp 50) (by rfl) w.heap.size (.slice none 0 0) 0 [] (by rfl) (World.ownsRow_nil _ _ _ _) _ 0 _ [] (by rfl) ⟨rfl, fun h => absurd h (Nat.lt_irrefl _)⟩ (by omega) (HS.size (by first | exact hD _ | exact HS.alloc (hD _) _)) ?_; intro v1 w1 ho1 hg1 hb1; have hS1 : S w1 := HS.grown (by first | exact hD _ | exact HS.alloc (hD _) _) HS.nil hg1; have hA1 : Ap v1 := HS.next HS.nil (by first | exact hD _ | exact HS.alloc (hD _) _) hb1)
                  | (refine step_ints (by rfl) (.tmp 51) (.tmp 53) (by rfl) w.heap.size v1 (0 + 0) ([] ++ []) (by rfl) (by first | exact ho1 | exact ho1.alloc _) _ 1 _ [(k : Int)] (by rfl) (by first | exact ints_one cell_last | exact ints_one (cell_kept hg1 cell_last (by simp) (fun e => by cases e))) (by omega) (HS.size (by first | exact hS1 | exact HS.alloc hS1 _)) ?_; intro v2 w2 ho2 hg2 hb2; have hS2 : S w2 := HS.grown (by first | exact hS1 | exact HS.alloc hS1 _) hA1 hg2; have hA2 : Ap v2 := HS.next hA1 (by first | exact hS1 | exact HS.alloc hS1 _) hb2)
                  | (refine step_ints (by rfl) (.tmp 54) (.tmp 57) (by rfl) w.heap.size v2 (0 + 0 + 1) (([] ++ []) ++ [(k : Int)]) (by rfl) ho2 _ 0 _ [] (by rfl) ⟨rfl, fun h => absurd h (Nat.lt_irrefl _)⟩ (by omega) (HS.size hS2) ?_; intro v3 w3 ho3 hg3 hb3; have hS3 : S w3 := HS.grown hS2 hA2 hg3))
              all_goals (go_wp2_with fail)
              all_goals (
                obtain ⟨zs, Ao3, c3, e3, hz3, hw3⟩ := round_done (p := 0) (ys := []) ho3 HW.out (by rw [HV.out.1]; exact hd) (Nat.le_refl _) (by rw [HV.out.2.1]; exact fun i hi => absurd hi (Nat.not_lt_zero _)) (by rw [HV.out.2.1]; exact fun i h1 h2 => absurd h2 (Nat.not_lt_zero _))
                refine ⟨⟨k + 1, zs, Ao3, c3, by omega, by go_num, e3, hz3, hw3, HS.below hS3⟩, ?_⟩
                simp [intOf]
                omega)
            · obtain ⟨rfl, rfl⟩ : Ao = some ⟨g, 0, none⟩ ∧ c = c' := by injection hg with h1 _ h2; exact ⟨h1, h2⟩
              clear hg
              have t0 : decide ((0 : Int) < (p : Int)) = false := decide_eq_false (by omega)
              have tp : ¬ 0 < p := by omega
              have hlo0 : ∀ i, i < p → firstOf js (ys.getD i 0).toNat ≤ jf := fun i hi => by omega
              have HP0 := Lib.hid (And.intro hp0 hlo0)
              clear hp0 hlo0
              go_wp2_with fail
              go_quiet (fail)
              go_wp2_with fail
              have hlc : ys.length ≤ c := own_cap hR0.1
              have z0 : (0 : Int) ≤ (p : Int) := by omega
              have z1 : (p : Int) ≤ (c : Int) := by omega
              have z2 : p ≤ c := by omega
              have z3 : (p : Int) ≤ (ys.length : Int) := by omega
              obtain ⟨S, Ap, HS, hSq⟩ := held_mk (Nat.le_refl _) hR0
              have hD : ∀ q, S (wq.drewN q).drew := fun q => HS.drew (HS.drewN hSq q)
              clear hR0
              go_region_held_law S (first | exact hS3 | exact hS2 | exact hS1 | exact HS.alloc hS1 _ | exact HS.alloc (hD _) _ | exact hD _)
                (first
                  | (refine step_ints (by rfl) (.const (.slice none 0 0)) (.tmp 50) (by rfl) w.heap.size (.slice none 0 0) 0 [] (by rfl) (World.ownsRow_nil _ _ _ _) _ p _ (ys.take p) (by rfl) ((HS.ints (by first | exact hD _ | exact HS.alloc (hD _) _)).take p hp) (by omega) (HS.size (by first | exact hD _ | exact HS.alloc (hD _) _)) ?_; intro v1 w1 ho1 hg1 hb1; have hS1 : S w1 := HS.grown (by first | exact hD _ | exact HS.alloc (hD _) _) HS.nil hg1; have hA1 : Ap v1 := HS.next HS.nil (by first | exact hD _ | exact HS.alloc (hD _) _) hb1)
                  | (refine step_ints (by rfl) (.tmp 51) (.tmp 53) (by rfl) w.heap.size v1 (0 + p) ([] ++ ys.take p) (by rfl) (by first | exact ho1 | exact ho1.alloc _) _ 1 _ [(k : Int)] (by rfl) (by first | exact ints_one cell_last | exact ints_one (cell_kept hg1 cell_last (by simp) (fun e => by cases e))) (by omega) (HS.size (by first | exact hS1 | exact HS.alloc hS1 _)) ?_; intro v2 w2 ho2 hg2 hb2; have hS2 : S w2 := HS.grown (by first | exact hS1 | exact HS.alloc hS1 _) hA1 hg2; have hA2 : Ap v2 := HS.next hA1 (by first | exact hS1 | exact HS.alloc hS1 _) hb2)
                  | (refine step_ints (by rfl) (.tmp 54) (.tmp 57) (by rfl) w.heap.size v2 (0 + p + 1) (([] ++ ys.take p) ++ [(k : Int)]) (by rfl) ho2 _ (ys.length - p) _ (ys.drop p) (by rfl) ((HS.ints hS2).dropIf hlc p) (by omega) (HS.size hS2) ?_; intro v3 w3 ho3 hg3 hb3; have hS3 : S w3 := HS.grown hS2 hA2 hg3))
              all_goals (go_wp2_with fail)
              all_goals (
                obtain ⟨zs, Ao3, c3, e3, hz3, hw3⟩ := round_done ho3 HW.out (by rw [HV.out.1]; exact hd) hp (by rw [HV.out.2.1]; exact HP0.out.2) (by rw [HV.out.2.1]; exact HH.out)
                refine ⟨⟨k + 1, zs, Ao3, c3, by omega, by go_num, e3, hz3, hw3, HS.below hS3⟩, ?_⟩
                simp [intOf]
                omega)
          · obtain ⟨r, hr⟩ : ∃ r, p = r + 1 := ⟨p - 1, by omega⟩
            have hrl : r < ys.length := by omega
            rcases Joins.ownsRow_forms HO.out with ⟨_, h0⟩ | ⟨g, c', hg⟩
            · omega
            · obtain ⟨rfl, rfl⟩ : Ao = some ⟨g, 0, none⟩ ∧ c = c' := by injection hg with h1 _ h2; exact ⟨h1, h2⟩
              have hcell := HO.out.cellAt r (by omega)
              obtain ⟨m, hm, hmk, _⟩ := HW.out.each _ (List.getElem_mem hrl)
              rw [List.getElem?_map, List.getElem?_eq_getElem hrl, hm] at hcell
              simp only [Option.map_some] at hcell
              have e0 : wq.cell? ⟨g, r, none⟩ = some (.int .i64 (m : Int)) := by rw [HWQ.out]; exact hcell
              obtain ⟨⟨jc', je', jf'⟩, hjm⟩ : ∃ j, js[m]? = some j := ⟨js[m]'(by have := HL.out; omega), List.getElem?_eq_getElem _⟩
              have e2 : wq.cell? ⟨jb, off + m * 3 + 2, none⟩ = some (.int .i64 jf') := by rw [HWQ.out]; exact (HB.out.cell hjb).trans (HC.out _ _ hjm).2.2
              have hfm : firstOf js m = jf' := by simp [firstOf, List.getD, hjm]
              have hpi : (p : Int) - 1 = (r : Int) := by omega
              have hwr : IntKind.i64.wrap (r : Int) = (r : Int) := IntWalk.i64_in _ (by omega)
              have t0 : decide ((0 : Int) < (p : Int)) = true := decide_eq_true (by omega)
              have tp : 0 < p := by omega
              have r1 : (r : Int) < (ys.length : Int) := by omega
              have r0 : (0 : Int) ≤ (r : Int) := by omega
              have m1 : (m : Int) < (len : Int) := by omega
              have m0 : (0 : Int) ≤ (m : Int) := by omega
              have HM := Lib.hid (And.intro hm (And.intro hfm hr))
              clear hcell hjm hm hfm hg hr
              by_cases ht : jf < jf'
              · have t1 : decide (jf < jf') = true := decide_eq_true ht
                go_wp2_with fail
                go_quiet (fail)
                go_wp2_with fail
                go_roundw
                case rel =>
                  refine ⟨r, by omega, by go_num, fun i h1 h2 => ?_, q1 + _, by rw [HWQ.out, World.drewN_drewN]⟩
                  by_cases hir : i = r
                  · subst hir
                    rw [List.getD, List.getElem?_eq_getElem h2, Option.getD_some, HM.out.1, Int.toNat_natCast, HM.out.2.1]
                    exact ht
                  · exact HH.out i (by have := HM.out.2.2; omega) h2
                case measure => simp [intOf]; omega
              · have t1 : decide (jf < jf') = false := decide_eq_false ht
                go_wp2_with fail
                go_quiet (fail)
                go_wp2_with fail
                have hRq : wq.ownsRow w.heap.size 3 1 (.slice (some ⟨g, 0, none⟩) ys.length c) ys.length (ys.map (Value.int .i64)) ∧ RowKit.Below w.heap.size w wq := by rw [HWQ.out]; exact ⟨own_drew HO.out _, below_drew HB.out _⟩
                have hlc : ys.length ≤ c := own_cap hRq.1
                have z0 : (0 : Int) ≤ (p : Int) := by omega
                have z1 : (p : Int) ≤ (c : Int) := by omega
                have z2 : p ≤ c := by omega
                have z3 : (p : Int) ≤ (ys.length : Int) := by omega
                obtain ⟨S, Ap, HS, hSq⟩ := held_mk (Nat.le_refl _) hRq
                have hD : ∀ q, S (wq.drewN q).drew := fun q => HS.drew (HS.drewN hSq q)
                clear hRq
                go_region_held_law S (first | exact hS3 | exact hS2 | exact hS1 | exact HS.alloc hS1 _ | exact HS.alloc (hD _) _ | exact hD _)
                  (first
                    | (refine step_ints (by rfl) (.const (.slice none 0 0)) (.tmp 50) (by rfl) w.heap.size (.slice none 0 0) 0 [] (by rfl) (World.ownsRow_nil _ _ _ _) _ p _ (ys.take p) (by rfl) ((HS.ints (by first | exact hD _ | exact HS.alloc (hD _) _)).take p hp) (by omega) (HS.size (by first | exact hD _ | exact HS.alloc (hD _) _)) ?_; intro v1 w1 ho1 hg1 hb1; have hS1 : S w1 := HS.grown (by first | exact hD _ | exact HS.alloc (hD _) _) HS.nil hg1; have hA1 : Ap v1 := HS.next HS.nil (by first | exact hD _ | exact HS.alloc (hD _) _) hb1)
                    | (refine step_ints (by rfl) (.tmp 51) (.tmp 53) (by rfl) w.heap.size v1 (0 + p) ([] ++ ys.take p) (by rfl) (by first | exact ho1 | exact ho1.alloc _) _ 1 _ [(k : Int)] (by rfl) (by first | exact ints_one cell_last | exact ints_one (cell_kept hg1 cell_last (by simp) (fun e => by cases e))) (by omega) (HS.size (by first | exact hS1 | exact HS.alloc hS1 _)) ?_; intro v2 w2 ho2 hg2 hb2; have hS2 : S w2 := HS.grown (by first | exact hS1 | exact HS.alloc hS1 _) hA1 hg2; have hA2 : Ap v2 := HS.next hA1 (by first | exact hS1 | exact HS.alloc hS1 _) hb2)
                    | (refine step_ints (by rfl) (.tmp 54) (.tmp 57) (by rfl) w.heap.size v2 (0 + p + 1) (([] ++ ys.take p) ++ [(k : Int)]) (by rfl) ho2 _ (ys.length - p) _ (ys.drop p) (by rfl) ((HS.ints hS2).dropIf hlc p) (by omega) (HS.size hS2) ?_; intro v3 w3 ho3 hg3 hb3; have hS3 : S w3 := HS.grown hS2 hA2 hg3))
                all_goals (go_wp2_with fail)
                all_goals (
                  obtain ⟨zs, Ao3, c3, e3, hz3, hw3⟩ := round_done ho3 HW.out (by rw [HV.out.1]; exact hd) hp (by rw [HV.out.2.1]; rw [HM.out.2.2]; exact lo_of HW.out.order r hrl (by rw [List.getD, List.getElem?_eq_getElem hrl, Option.getD_some, HM.out.1, Int.toNat_natCast, HM.out.2.1]; omega)) (by rw [HV.out.2.1]; exact HH.out)
                  refine ⟨⟨k + 1, zs, Ao3, c3, by omega, by go_num, e3, hz3, hw3, HS.below hS3⟩, ?_⟩
                  simp [intOf]
                  omega)
    · obtain rfl : k = len := by omega
      go_wp2_with fail
      go_ret
      exact ⟨Ao, ys.length, c, ys, rfl, by have := HW.out.length; have := cnt_le js b a k; omega, Ints.of_own HO.out, (by have := HL.out; subst this; exact HW.out.is), HB.out⟩
end Go.Proofs.Ythibbhkjfopjcaa
