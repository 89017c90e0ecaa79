/-
  The program's reading of digits.
-/
import Derived.Test.YtjbagjmjbfiddaaGreatDoorRead
import Derived.Laws.MakeOwn
import Derived.Shelf.Small.Strs
import Derived.Test.YtjbagjmjbfiddaaGreatDoorShelf
namespace Go.Proofs.YtjbagjmjbfiddaaGreatDoor
open Go.ChangeShapes Go.WideShapes Go.ChangeAt Go.RowKit

set_option maxRecDepth 100000 in
theorem index_all : ∀ k : Fin 256, Lib.indexByte sixteen.data.toList k.1.toUInt8 = dig (k.1 : Int) := by decide
theorem index_dig (s : ByteArray) (i : Nat) : Lib.indexByte sixteen.data.toList (sat s i).toNat.toUInt8 = dig (sat s i) := by
  have h : (sat s i).toNat < 256 ∧ 0 ≤ sat s i := by
    unfold sat
    split
    · have := (s[i]'(by assumption)).toNat_lt; omega
    · omega
  have := index_all ⟨(sat s i).toNat, h.1⟩
  simp only [Int.toNat_of_nonneg h.2] at this
  exact this
theorem place_any (s : ByteArray) (i : Nat) (w : World) : Calls Tryz.prog 53 #[.string ⟨#[48, 49, 50, 51, 52, 53, 54, 55, 56, 57, 97, 98, 99, 100, 101, 102]⟩, .int .u8 (sat s i)] w fun e w' => e = .returned (.int .i64 (dig (sat s i))) ∧ w' = w := by
  have h := Tryz.strings_IndexByte sixteen (sat s i) w
  rw [index_dig] at h
  exact h
set_option maxRecDepth 100000 in
theorem or_all : ∀ p q : Fin 16, bits BinOp.or IntKind.i64 ((p.1 : Int) * 16) (q.1 : Int) = 16 * (p.1 : Int) + q.1 := by decide
theorem or_at {p q : Int} (hp : 0 ≤ p) (hp' : p ≤ 15) (hq : 0 ≤ q) (hq' : q ≤ 15) : bits BinOp.or IntKind.i64 (p * 16) q = 16 * p + q := by
  have := or_all ⟨p.toNat, by omega⟩ ⟨q.toNat, by omega⟩
  simp only [Int.toNat_of_nonneg hp, Int.toNat_of_nonneg hq] at this
  exact this
theorem own_lt {w : World} {base : Nat} {e : TypeId} {size g : Nat} {l c n : Nat} {xs : List Value} (h : w.ownsRow base e size (.slice (some ⟨g, 0, none⟩) l c) n xs) : g < w.heap.size := by
  rcases h.2 with ⟨h', _⟩ | ⟨g', cap', cur, h', _, hg, _⟩
  · simp at h'
  · simp at h'
    obtain ⟨rfl, _⟩ := h'
    rcases Nat.lt_or_ge g w.heap.size with h'' | h''
    · exact h''
    · simp [Array.getElem?_eq_none h''] at hg
theorem set_next {xs ys : List Value} {u : Value} {k n : Nat} (h : xs.length = k) (hy : ys.length = n - k) (hk : k < n) : ∃ ys', (xs ++ ys).set k u = (xs ++ [u]) ++ ys' ∧ ys'.length = n - (k + 1) := by
  subst h
  cases ys with
  | nil => simp at hy; omega
  | cons y ys => exact ⟨ys, by simp, by simp at hy; omega⟩

set_option maxHeartbeats 800000 in
set_option maxRecDepth 100000 in
theorem pbytes_any (s : ByteArray) (hs : s.size ≤ 1000000) (B : Nat) (w : World) (hB : B ≤ w.heap.size) :
    Calls Tryz.prog 38 #[.string s] w fun e w' => e = .returned (.tuple #[.string (readOf s).1, .bool (readOf s).2]) ∧ Below B w w' := by
  obtain ⟨i00, hi, hz0, hz1, hz2⟩ := info_parts info5
  by_cases h1 : s.toList = [45]
  · have b1 : (s.toList == [45]) = true := by simp [h1]
    have hr : readOf s = (⟨#[]⟩, true) := by unfold readOf; rw [if_pos h1]
    rw [hr]
    clear hr h1
    go_enter Tryz.func38, Tryz.ntmps38
    go_wp2_with fail
    go_ret2
    exact ⟨rfl, Below.refl _ _⟩
  · have b1 : (s.toList == [45]) = false := by simp [h1]
    by_cases h2 : s.toList = []
    · have b2 : (s.toList == []) = true := by rw [h2]; rfl
      have hr : readOf s = (⟨#[]⟩, false) := by unfold readOf; rw [if_neg h1, if_pos (.inl h2)]
      rw [hr]
      clear hr h1 h2
      go_enter Tryz.func38, Tryz.ntmps38
      go_wp2_with fail
      go_ret2
      exact ⟨rfl, Below.refl _ _⟩
    · have b2 : (s.toList == []) = false := by rw [← Bool.not_eq_true]; simpa using h2
      have hz : (0 : Int) ≤ s.size := by omega
      by_cases h3 : s.size % 2 = 1
      · have b3 : ((s.size : Int) % 2 != 0) = true := by
          have : (s.size : Int) % 2 = 1 := by omega
          rw [this]
          rfl
        have hr : readOf s = (⟨#[]⟩, false) := by unfold readOf; rw [if_neg h1, if_pos (.inr h3)]
        rw [hr]
        clear hr h1 h2 h3
        go_enter Tryz.func38, Tryz.ntmps38
        go_wp2_with fail
        go_ret2
        exact ⟨rfl, Below.refl _ _⟩
      · have b3 : ((s.size : Int) % 2 != 0) = false := by
          have : (s.size : Int) % 2 = 0 := by omega
          rw [this]
          rfl
        have hr : readOf s = if ∀ j, j < s.size / 2 → good s j then (⟨(vals s (s.size / 2)).toArray⟩, true) else (⟨#[]⟩, false) := by unfold readOf; rw [if_neg h1, if_neg (by simp [h2, h3])]
        generalize hR : readOf s = R
        rw [hr] at hR
        have HR := Lib.hid hR
        clear hR
        have H3 := Lib.hid h3
        clear hr h1 h2 h3
        obtain ⟨n, hn⟩ : ∃ n : Nat, s.size / 2 = n := ⟨_, rfl⟩
        have hq : (s.size : Int).tdiv 2 = (n : Int) := by rw [Int.tdiv_eq_ediv_of_nonneg (by omega)]; omega
        have km := run_make (P := Tryz.prog) w 49 5 i00 (.int .u8 0) Tryz.underlying49 hi hz0 .i64 .i64 (n : Int) (n : Int) (by omega) (by omega) (by rw [hz2]; omega) (by omega)
        go_enter Tryz.func38, Tryz.ntmps38
        go_wp2_with fail
        have hst := World.ownsRow_lit (base := B) (e := 5) (size := 1) w (madeCells #[.int .u8 0] n) n hB (by unfold maxLen; omega) (by rw [size_madeCells]; omega)
        have hsl : (madeCells #[.int .u8 0] n).toList.length = n := by rw [Array.length_toList, size_madeCells]
        have hb0 := (RowKit.Below.refl B w).alloc hB (.cells (madeCells #[.int .u8 0] n) 5)
        generalize w.alloc (.cells (madeCells #[.int .u8 0] n) 5) = W0 at *
        generalize (madeCells #[.int .u8 0] n).toList = ys0 at *
        generalize w.heap.size = g at *
        clear km
        go_loopw [24] (fun i wr => ∃ (k : Nat) (ys : List Value), k ≤ n ∧ i = .int .i64 k ∧ ys.length = n - k ∧ wr.ownsRow B 5 1 (.slice (some ⟨g, 0, none⟩) n n) n (Lib.byteCells (vals s k) ++ ys) ∧ (∀ j, j < k → good s j) ∧ Below B w wr) (fun i _ => n - (intOf i).toNat)
        case atStart => exact ⟨0, ys0, Nat.zero_le _, rfl, hsl, hst, fun j hj => absurd hj (Nat.not_lt_zero j), hb0⟩
        case round =>
          clear hst hsl hb0
          obtain ⟨k, ys, hk, rfl, hys, how, hgd, hb⟩ := hrel
          have HO := Lib.hid how
          have HG := Lib.hid hgd
          have HB := Lib.hid hb
          have HY := Lib.hid hys
          clear how hgd hb hys
          by_cases hlt : k < n
          · obtain ⟨m, hm⟩ : ∃ m, m = 2 * k := ⟨_, rfl⟩
            have hlt1 : 2 * k + 1 < s.size := by have := H3.out; omega
            have g0 : m < s.size := by omega
            have g1 : m + 1 < s.size := by omega
            have i0 : (m : Int) < (s.size : Int) := by omega
            have i1 : (m : Int) + 1 < (s.size : Int) := by omega
            have i2 : (0 : Int) ≤ (m : Int) + 1 := by omega
            have i3 : ((m : Int) + 1).toNat = m + 1 := by omega
            have i4 : IntKind.i64.wrap ((m : Int) + 1) = (m : Int) + 1 := IntWalk.i64_in _ (by omega)
            have i5 : (0 : Int) ≤ (m : Int) := by omega
            have i6 : ((m : Int)).toNat = m := by omega
            have i7 : IntKind.i64.wrap (2 * (k : Int)) = (m : Int) := (IntWalk.i64_in _ (by omega)).trans (by omega)
            have i8 : (k : Int) < (n : Int) := by omega
            have i9 : (0 : Int) ≤ (k : Int) := by omega
            have e0 : ((s[m]'g0).toNat : Int) = sat s (2 * k) := by simp [sat, ← hm, g0]
            have e1 : ((s[m + 1]'g1).toNat : Int) = sat s (2 * k + 1) := by simp [sat, ← hm, g1]
            obtain ⟨p, hp⟩ : ∃ p, dig (sat s (2 * k)) = p := ⟨_, rfl⟩
            obtain ⟨q, hq⟩ : ∃ q, dig (sat s (2 * k + 1)) = q := ⟨_, rfl⟩
            have pb := dig_bd (sat s (2 * k))
            have qb := dig_bd (sat s (2 * k + 1))
            rw [hp] at pb
            rw [hq] at qb
            have HW := Lib.hid hm
            have HN := Lib.hid hn
            clear hm hk hn
            go_wp2_with fail
            refine wp_region_quiet_lit (by kernel_rfl) (by kernel_rfl) ?_
            quiet_step (fail)
            quiet_step (fail)
            quiet_step (fail)
            quiet_step (fail)
            refine wpQuiet_step (fun K hK => ?_)
            go_simp
            apply Exists.intro
            refine ⟨fun _ => Calls.quiet_of_same (place_any _ _ _), hK _ ?_⟩
            clear hK K
            quiet_step (fail)
            quiet_step (fail)
            quiet_step (fail)
            quiet_step (fail)
            quiet_step (fail)
            refine wpQuiet_step (fun K hK => ?_)
            go_simp
            apply Exists.intro
            refine ⟨fun _ => Calls.quiet_of_same (place_any _ _ _), hK _ ?_⟩
            clear hK K
            quiet_step (fail)
            quiet_step (fail)
            refine wpQuiet_nil ?_
            rintro _ ⟨nq, rfl⟩
            obtain ⟨W, hW⟩ : ∃ W, W = wr.drewN nq := ⟨_, rfl⟩
            have HO2 := Lib.hid (show W.ownsRow B 5 1 (.slice (some ⟨g, 0, none⟩) n n) n (Lib.byteCells (vals s k) ++ ys) by rw [hW]; exact own_drew HO.out _)
            have HB2 := Lib.hid (show RowKit.Below B w W by rw [hW]; exact below_drew HB.out _)
            rw [← hW]
            have hgl : g < W.heap.size := own_lt HO2.out
            clear hW HO HB
            by_cases hp0 : 0 ≤ p
            · by_cases hq0 : 0 ≤ q
              · have j1 : decide (p < 0) = false := by simpa using hp0
                have j2 : decide (q < 0) = false := by simpa using hq0
                have j3 := or_at hp0 pb.2 hq0 qb.2
                have j4 : (16 * p + q) % 256 = 16 * p + q := by omega
                have hkc : k < (Lib.byteCells (vals s k) ++ ys).length := by rw [List.length_append, HY.out, Lib.byteCells_length, vals_len]; omega
                have j5 : W.cell? ⟨g, k, none⟩ = some ((Lib.byteCells (vals s k) ++ ys)[k]'hkc) := by rw [HO2.out.cellAt k (by omega), List.getElem?_eq_getElem hkc]
                have j6 : W.frozen? ⟨g, k, none⟩ = false := HO2.out.frozenAt k
                generalize (Lib.byteCells (vals s k) ++ ys)[k]'hkc = y0 at j5
                clear hkc
                go_wp2_with fail
                have hg : good s k := ⟨by rw [hp]; exact hp0, by rw [hq]; exact hq0⟩
                obtain ⟨hst, hgr⟩ := HO2.out.stored k (.int .u8 (16 * p + q))
                obtain ⟨ys', hy1, hy2⟩ := set_next (xs := Lib.byteCells (vals s k)) (ys := ys) (u := .int .u8 (16 * p + q)) (by rw [Lib.byteCells_length, vals_len]) HY.out hlt
                rw [hy1, show Lib.byteCells (vals s k) ++ [.int .u8 (16 * p + q)] = Lib.byteCells (vals s (k + 1)) by rw [cells_succ hg]; unfold two; rw [hp, hq]] at hst
                refine ⟨⟨k + 1, ys', by omega, by go_num, hy2, hst, fun j hj => ?_, HB2.out.grown hgr (Nat.le_trans hB (Nat.le_of_lt hgl)) (by intro t ht; simp at ht; omega)⟩, by simp [intOf]; omega⟩
                rcases Nat.lt_or_ge j k with h | h
                · exact HG.out j h
                · rw [show j = k by omega]
                  exact hg
              · obtain rfl : q = -1 := by omega
                have hnone : ¬ ∀ j, j < s.size / 2 → good s j := fun h => by have := (h k (by rw [HN.out]; exact hlt)).2; rw [hq] at this; omega
                have HNO := Lib.hid hnone
                clear hnone
                go_wp2_with fail
                go_ret2
                exact ⟨by rw [← HR.out, if_neg HNO.out]; rfl, HB2.out⟩
            · obtain rfl : p = -1 := by omega
              have hnone : ¬ ∀ j, j < s.size / 2 → good s j := fun h => by have := (h k (by rw [HN.out]; exact hlt)).1; rw [hp] at this; omega
              have HNO := Lib.hid hnone
              clear hnone
              go_wp2_with fail
              go_ret2
              exact ⟨by rw [← HR.out, if_neg HNO.out]; rfl, HB2.out⟩
          · obtain rfl : k = n := by omega
            have hall : ∀ j, j < s.size / 2 → good s j := by rw [hn]; exact HG.out
            have HA := Lib.hid hall
            have HK := Lib.hid hn
            obtain rfl : ys = [] := by have := HY.out; simpa using this
            have hO3 : wr.ownsRow B 5 1 (.slice (some ⟨g, 0, none⟩) k k) k (Lib.byteCells (vals s k)) := by have := HO.out; simpa using this
            have HO3 := Lib.hid hO3
            clear hall hn hO3
            have kc := run_convert_bytes_back (P := Tryz.prog) wr 49 9 5 ⟨g, 0, none⟩ k (vals s k) Tryz.underlying49 Tryz.underlying5 Tryz.underlying9 (fun j hj => World.ownsRow.cells HO3.out (g := g) rfl j _ (by simp [Lib.byteCells, List.getElem?_map, List.getElem?_eq_getElem hj]))
            rw [vals_len] at kc
            go_wp2_with fail
            go_ret2
            exact ⟨by rw [← HR.out, if_pos HA.out, HK.out]; rfl, HB.out⟩
end Go.Proofs.YtjbagjmjbfiddaaGreatDoor
