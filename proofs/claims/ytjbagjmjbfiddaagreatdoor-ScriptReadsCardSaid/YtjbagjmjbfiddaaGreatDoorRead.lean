/-
  The document's reading of digits.
-/
import Derived.Test.YtjbagjmjbfiddaaGreatDoorBase
import Derived.Lib.AppendStr
import Derived.Lib.UnsafeStr
import Derived.Lib.BufferRead
import Derived.Laws.IdiomStrings
import Derived.Laws.OwnMore
import Derived.Lib.SmallJoins
import Derived.OwnWalk
import Derived.Handy
import Derived.IntWalk
namespace Go.Proofs.YtjbagjmjbfiddaaGreatDoor
open Go.ChangeShapes Go.WideShapes Go.ChangeAt Go.RowKit

def sat (s : ByteArray) (i : Nat) : Int := if h : i < s.size then ((s[i]'h).toNat : Int) else 0
def two (s : ByteArray) (j : Nat) : Int := 16 * dig (sat s (2 * j)) + dig (sat s (2 * j + 1))
abbrev good (s : ByteArray) (j : Nat) : Prop := 0 ≤ dig (sat s (2 * j)) ∧ 0 ≤ dig (sat s (2 * j + 1))
def vals (s : ByteArray) (k : Nat) : List UInt8 := (List.range k).map fun j => UInt8.ofNat (two s j).toNat
def readOf (s : ByteArray) : ByteArray × Bool :=
  if s.toList = [45] then (⟨#[]⟩, true) else if s.toList = [] ∨ s.size % 2 = 1 then (⟨#[]⟩, false)
  else if ∀ j, j < s.size / 2 → good s j then (⟨(vals s (s.size / 2)).toArray⟩, true) else (⟨#[]⟩, false)
theorem vals_len (s : ByteArray) (k : Nat) : (vals s k).length = k := by simp [vals]
theorem vals_succ (s : ByteArray) (k : Nat) : vals s (k + 1) = vals s k ++ [UInt8.ofNat (two s k).toNat] := by simp [vals, List.range_succ]
theorem dig_bd (c : Int) : -1 ≤ dig c ∧ dig c ≤ 15 := by unfold dig; split <;> (try split) <;> omega
theorem below_drew {B : Nat} {W w : World} (h : RowKit.Below B W w) (q : Nat) : RowKit.Below B W (w.drewN q) := ⟨h.os, h.tape, h.output, h.size, h.block⟩
theorem own_drew {w : World} {base : Nat} {e : TypeId} {size : Nat} {v : Value} {n : Nat} {xs : List Value} (h : w.ownsRow base e size v n xs) (q : Nat) : (w.drewN q).ownsRow base e size v n xs := h
theorem own_base {w : World} {base : Nat} {e : TypeId} {size : Nat} {v : Value} {n : Nat} {xs : List Value} (h : w.ownsRow base e size v n xs) : ∀ k, v.ownBlock = some k → base ≤ k := by
  intro k hk
  rcases h.2 with ⟨rfl, _⟩ | ⟨g, cap, cur, rfl, hb, _⟩
  · simp [Value.ownBlock] at hk
  · simp [Value.ownBlock] at hk
    omega
theorem cell_last {w : World} {x : Value} {t : TypeId} : (w.alloc (.cells #[x] t)).cell? (Addr.add ⟨w.heap.size, 0, none⟩ 0) = some x := by
  have h := heap_alloc_new w (.cells #[x] t)
  show (w.alloc (.cells #[x] t)).cell? ⟨w.heap.size, 0, none⟩ = some x
  unfold World.cell?
  simp only [h]
  rfl
theorem cells_succ {s : ByteArray} {k : Nat} (h : good s k) : Lib.byteCells (vals s (k + 1)) = Lib.byteCells (vals s k) ++ [.int .u8 (two s k)] := by
  have a := dig_bd (sat s (2 * k))
  have b := dig_bd (sat s (2 * k + 1))
  have h0 := h.1
  have h1 := h.2
  have e : ((UInt8.ofNat (two s k).toNat).toNat : Int) = two s k := by
    rw [UInt8.toNat_ofNat']
    unfold two
    omega
  rw [vals_succ, Lib.byteCells_append]
  show _ ++ [Value.int .u8 ((UInt8.ofNat (two s k).toNat).toNat : Int)] = _
  rw [e]
theorem info5 : (Tryz.prog.info? 5).map (fun i => (i.zero, i.size, i.bytes)) = some (some (.int .u8 0), 1, 1) := by kernel_rfl

set_option maxHeartbeats 800000 in
set_option maxRecDepth 100000 in
theorem rbytes_any (s : ByteArray) (hs : s.size ≤ 1000000) (B : Nat) (w : World) (hB : B ≤ w.heap.size) :
    Calls Tryz.prog 43 #[.string s] w fun e w' => e = .returned (.tuple #[.string (readOf s).1, .bool (readOf s).2]) ∧ Below B w w' := by
  obtain ⟨i00, hi, hz0, hz1, hz2⟩ := info_parts info5
  by_cases h1 : s.toList = [45]
  · have b1 : (s.toList == [45]) = true := by simp [h1]
    have hr : readOf s = (⟨#[]⟩, true) := by unfold readOf; rw [if_pos h1]
    rw [hr]
    clear hr h1
    go_enter Tryz.func43, Tryz.ntmps43
    go_wp2_with fail
    go_ret2
    exact ⟨rfl, Below.refl _ _⟩
  · have b1 : (s.toList == [45]) = false := by simp [h1]
    by_cases h2 : s.toList = []
    · have b2 : (s.toList == []) = true := by rw [h2]; rfl
      have hr : readOf s = (⟨#[]⟩, false) := by unfold readOf; rw [if_neg h1, if_pos (.inl h2)]
      rw [hr]
      clear hr h1 h2
      go_enter Tryz.func43, Tryz.ntmps43
      go_wp2_with fail
      go_ret2
      exact ⟨rfl, Below.refl _ _⟩
    · have b2 : (s.toList == []) = false := by rw [← Bool.not_eq_true]; simpa using h2
      have hz : (0 : Int) ≤ s.size := by omega
      by_cases h3 : s.size % 2 = 1
      · have b3 : ((s.size : Int) % 2 != 0) = true := by
          have : (s.size : Int) % 2 = 1 := by omega
          rw [this]
          rfl
        have hr : readOf s = (⟨#[]⟩, false) := by unfold readOf; rw [if_neg h1, if_pos (.inr h3)]
        rw [hr]
        clear hr h1 h2 h3
        go_enter Tryz.func43, Tryz.ntmps43
        go_wp2_with fail
        go_ret2
        exact ⟨rfl, Below.refl _ _⟩
      · have b3 : ((s.size : Int) % 2 != 0) = false := by
          have : (s.size : Int) % 2 = 0 := by omega
          rw [this]
          rfl
        have hr : readOf s = if ∀ j, j < s.size / 2 → good s j then (⟨(vals s (s.size / 2)).toArray⟩, true) else (⟨#[]⟩, false) := by unfold readOf; rw [if_neg h1, if_neg (by simp [h2, h3])]
        generalize hR : readOf s = R
        rw [hr] at hR
        have HR := Lib.hid hR
        clear hR
        have H3 := Lib.hid h3
        clear hr h1 h2 h3
        go_enter Tryz.func43, Tryz.ntmps43
        go_wp2_with fail
        go_loopw [4, 5] (fun v i wr => ∃ k : Nat, 2 * k ≤ s.size ∧ i = .int .i64 (2 * k : Nat) ∧ wr.ownsRow B 5 1 v k (Lib.byteCells (vals s k)) ∧ (∀ j, j < k → good s j) ∧ Below B w wr) (fun _ i _ => s.size - (intOf i).toNat)
        case atStart => exact ⟨0, Nat.zero_le _, rfl, World.ownsRow_nil _ _ _ _, fun j hj => absurd hj (Nat.not_lt_zero j), RowKit.Below.refl _ _⟩
        case round =>
          obtain ⟨k, hk, rfl, how, hgd, hb⟩ := hrel
          have HO := Lib.hid how
          have HG := Lib.hid hgd
          have HB := Lib.hid hb
          clear how hgd hb
          obtain ⟨m, hm⟩ : ∃ m, m = 2 * k := ⟨_, rfl⟩
          rw [← hm]
          by_cases hlt : 2 * k < s.size
          · have hlt1 : 2 * k + 1 < s.size := by have := H3.out; omega
            have g0 : m < s.size := by omega
            have g1 : m + 1 < s.size := by omega
            have i0 : (m : Int) < (s.size : Int) := by omega
            have i1 : (m : Int) + 1 < (s.size : Int) := by omega
            have i2 : (0 : Int) ≤ (m : Int) + 1 := by omega
            have i3 : ((m : Int) + 1).toNat = m + 1 := by omega
            have i4 : IntKind.i64.wrap ((m : Int) + 1) = (m : Int) + 1 := IntWalk.i64_in _ (by omega)
            have i5 : (0 : Int) ≤ (m : Int) := by omega
            have i6 : ((m : Int)).toNat = m := by omega
            have e0 : ((s[m]'g0).toNat : Int) = sat s (2 * k) := by simp [sat, ← hm, g0]
            have e1 : ((s[m + 1]'g1).toNat : Int) = sat s (2 * k + 1) := by simp [sat, ← hm, g1]
            obtain ⟨p, hp⟩ : ∃ p, dig (sat s (2 * k)) = p := ⟨_, rfl⟩
            obtain ⟨q, hq⟩ : ∃ q, dig (sat s (2 * k + 1)) = q := ⟨_, rfl⟩
            have pb := dig_bd (sat s (2 * k))
            have qb := dig_bd (sat s (2 * k + 1))
            rw [hp] at pb
            rw [hq] at qb
            have HW := Lib.hid hm
            clear hm hk
            go_wp2_with fail
            refine wp_region_quiet_lit (by kernel_rfl) (by kernel_rfl) ?_
            quiet_step (fail)
            quiet_step (fail)
            quiet_step (fail)
            refine wpQuiet_step (fun K hK => ?_)
            go_simp
            apply Exists.intro
            refine ⟨fun _ => Calls.quiet_of_same (digit_any _ _), hK _ ?_⟩
            clear hK K
            quiet_step (fail)
            quiet_step (fail)
            quiet_step (fail)
            quiet_step (fail)
            refine wpQuiet_step (fun K hK => ?_)
            go_simp
            apply Exists.intro
            refine ⟨fun _ => Calls.quiet_of_same (digit_any _ _), hK _ ?_⟩
            clear hK K
            quiet_step (fail)
            quiet_step (fail)
            refine wpQuiet_nil ?_
            rintro _ ⟨nq, rfl⟩
            obtain ⟨W, hW⟩ : ∃ W, W = wr.drewN nq := ⟨_, rfl⟩
            have HO2 := Lib.hid (show W.ownsRow B 5 1 u4 k (Lib.byteCells (vals s k)) by rw [hW]; exact own_drew HO.out _)
            have HB2 := Lib.hid (show RowKit.Below B w W by rw [hW]; exact below_drew HB.out _)
            rw [← hW]
            clear hW HO HB

            by_cases hp0 : 0 ≤ p
            · by_cases hq0 : 0 ≤ q
              · have j1 : decide (p < 0) = false := by simpa using hp0
                have j2 : decide (q < 0) = false := by simpa using hq0
                have j3 : IntKind.i64.wrap (16 * p) = 16 * p := IntWalk.i64_in _ (by omega)
                have j4 : IntKind.i64.wrap (16 * p + q) = 16 * p + q := IntWalk.i64_in _ (by omega)
                have j5 : IntKind.u8.wrap (16 * p + q) = 16 * p + q := by simp [IntKind.wrap, IntKind.signed, IntKind.bits]; omega
                have hzz := HB2.out.size
                go_wp2_with (at_builtin; refine wpList_append_own _ rfl (.tmp 39) (.tmp 45) 49 rfl B 5 i00 (.int .u8 0) 1 1 Tryz.underlying49 hi hz0 hz1 hz2 rfl (by decide) _ _ _ rfl (HO2.out.alloc _) ⟨W.heap.size, 0, none⟩ 1 1 [.int .u8 (16 * p + q)] rfl rfl ?c1 ?c2 ?c3 ?c4 ?c5 ?_)
                case c1 =>
                  intro j u hj
                  match j, hj with
                  | 0, hj => simp at hj; subst hj; exact cell_last
                case c2 => intro u hu; simp at hu; subst hu; rfl
                case c3 => unfold maxLen; omega
                case c4 => omega
                case c5 => simp; omega
                intro v' w1 hown1 hgrow _
                have h1 := (HB2.out.alloc (Nat.le_trans hB hzz) (.cells #[.int .u8 (16 * p + q)] 5)).grown hgrow (by simp; omega) (own_base HO2.out)
                have hg : good s k := ⟨by rw [hp]; exact hp0, by rw [hq]; exact hq0⟩
                have hown2 : w1.ownsRow B 5 1 v' (k + 1) (Lib.byteCells (vals s (k + 1))) := by rw [cells_succ hg]; unfold two; rw [hp, hq]; exact hown1
                have H1 := Lib.hid h1
                have H2 := Lib.hid hown2
                clear hown1 hown2 hgrow h1
                go_wp2_with fail
                refine ⟨⟨k + 1, by omega, congrArg (Value.int .i64) (by have := HW.out; omega), H2.out, fun j hj => ?_, H1.out⟩, by simp [intOf]; omega⟩
                rcases Nat.lt_or_ge j k with h | h
                · exact HG.out j h
                · rw [show j = k by omega]
                  exact hg
              · obtain rfl : q = -1 := by omega
                have hnone : ¬ ∀ j, j < s.size / 2 → good s j := fun h => by have := (h k (by omega)).2; rw [hq] at this; omega
                have HN := Lib.hid hnone
                clear hnone
                go_wp2_with fail
                go_ret2
                exact ⟨by rw [← HR.out, if_neg HN.out]; rfl, HB2.out⟩
            · obtain rfl : p = -1 := by omega
              have hnone : ¬ ∀ j, j < s.size / 2 → good s j := fun h => by have := (h k (by omega)).1; rw [hp] at this; omega
              have HN := Lib.hid hnone
              clear hnone
              go_wp2_with fail
              go_ret2
              exact ⟨by rw [← HR.out, if_neg HN.out]; rfl, HB2.out⟩
          · have hkk : s.size / 2 = k := by omega
            have hall : ∀ j, j < s.size / 2 → good s j := by rw [hkk]; exact HG.out
            have hm2 : m = s.size := by have := H3.out; omega
            have HA := Lib.hid hall
            have HK := Lib.hid hkk
            clear hall hkk
            rcases Joins.ownsRow_forms HO.out with ⟨rfl, rfl⟩ | ⟨g, c, rfl⟩
            · have kc := fun w : World => Lib.run_convert_nil_bytes (P := Tryz.prog) w 49 9 5 0 Tryz.underlying49 Tryz.underlying5 Tryz.underlying9
              go_wp2_with fail
              go_ret2
              exact ⟨by rw [← HR.out, if_pos HA.out, HK.out]; rfl, HB.out⟩
            · have kc := run_convert_bytes_back (P := Tryz.prog) wr 49 9 5 ⟨g, 0, none⟩ c (vals s k) Tryz.underlying49 Tryz.underlying5 Tryz.underlying9 (fun j hj => World.ownsRow.cells HO.out (g := g) rfl j _ (by simp [Lib.byteCells, List.getElem?_map, List.getElem?_eq_getElem hj]))
              rw [vals_len] at kc
              go_wp2_with fail
              go_ret2
              exact ⟨by rw [← HR.out, if_pos HA.out, HK.out]; rfl, HB.out⟩
end Go.Proofs.YtjbagjmjbfiddaaGreatDoor
