/-
  Parse at awake's first text.
-/
import Derived.Test.YtjbagjmjbfiddaaGreatDoorSame
namespace Go.Proofs.YtjbagjmjbfiddaaGreatDoor
open Go.ChangeShapes Go.WideShapes Go.ChangeAt Go.RowKit

abbrev text1 : ByteArray := ⟨#[115, 114, 99, 32, 54, 49, 54, 50, 10, 115, 99, 97, 110, 32, 50, 32, 45, 53, 32, 55, 10, 115, 114, 99, 32, 54, 51, 10]⟩
abbrev text1a : ByteArray := ⟨#[115, 99, 97, 110, 32, 50, 32, 45, 53, 32, 55, 10, 115, 114, 99, 32, 54, 51, 10]⟩
abbrev text1b : ByteArray := ⟨#[115, 114, 99, 32, 54, 51, 10]⟩
abbrev text2 : ByteArray := ⟨#[115, 114, 99, 32, 54, 49, 10, 115, 99, 97, 110, 32, 48, 50]⟩
abbrev src1 : ByteArray := ⟨#[115, 114, 99, 32, 54, 49, 54, 50]⟩
abbrev src2 : ByteArray := ⟨#[115, 114, 99, 32, 54, 51]⟩
abbrev src3 : ByteArray := ⟨#[115, 114, 99, 32, 54, 49]⟩
theorem cut_any (t line rest : ByteArray) (b : Bool) (h : Lib.cut t.data.toList [10] = (line.data.toList, rest.data.toList, b)) (hs : t.size < 4294967281) (w : World) (hE : Env w) :
    Calls Tryz.prog 23 #[.string t, .string ⟨#[10]⟩] w fun e w' => e = .returned (.tuple #[.string line, .string rest, .bool b]) ∧ ∃ n, w' = w.drewN n := by
  obtain ⟨m, hm⟩ := hE.most
  have := Tryz.strings_Cut t ⟨#[10]⟩ m w hs hm
  rw [show (⟨#[10]⟩ : ByteArray).data.toList = [10] from rfl, h] at this
  exact this
theorem cut1 : Lib.cut text1.data.toList [10] = (src1.data.toList, text1a.data.toList, true) := by kernel_rfl
theorem cut1a : Lib.cut text1a.data.toList [10] = (line1.data.toList, text1b.data.toList, true) := by kernel_rfl
theorem cut1b : Lib.cut text1b.data.toList [10] = (src2.data.toList, (⟨#[]⟩ : ByteArray).data.toList, true) := by kernel_rfl
theorem cut2 : Lib.cut text2.data.toList [10] = (src3.data.toList, line2.data.toList, true) := by kernel_rfl
theorem cut2a : Lib.cut line2.data.toList [10] = (line2.data.toList, (⟨#[]⟩ : ByteArray).data.toList, false) := by kernel_rfl
theorem read1 : readOf ⟨#[54, 49, 54, 50]⟩ = (⟨#[97, 98]⟩, true) := by unfold readOf; simp only [ByteArray.toList_eq]; decide
theorem read2 : readOf ⟨#[54, 51]⟩ = (⟨#[99]⟩, true) := by unfold readOf; simp only [ByteArray.toList_eq]; decide
theorem read3 : readOf ⟨#[54, 49]⟩ = (⟨#[97]⟩, true) := by unfold readOf; simp only [ByteArray.toList_eq]; decide
theorem srcs1 (w : World) : Calls Tryz.prog 24 #[.string src1] w fun e w' => e = .returned (.tuple #[.string ⟨#[97, 98]⟩, .bool true]) ∧ Below w.heap.size w w' := source_hit src1 _ _ rfl (by kernel_rfl) read1 (by decide) w
theorem srcs2 (w : World) : Calls Tryz.prog 24 #[.string src2] w fun e w' => e = .returned (.tuple #[.string ⟨#[99]⟩, .bool true]) ∧ Below w.heap.size w w' := source_hit src2 _ _ rfl (by kernel_rfl) read2 (by decide) w
theorem srcs3 (w : World) : Calls Tryz.prog 24 #[.string src3] w fun e w' => e = .returned (.tuple #[.string ⟨#[97]⟩, .bool true]) ∧ Below w.heap.size w w' := source_hit src3 _ _ rfl (by kernel_rfl) read3 (by decide) w
theorem info37 : (Tryz.prog.info? 45).map (fun i => (i.zero, i.size, i.bytes)) = some (some (.agg #[.slice none 0 0, .int .i64 0]), 2, 32) := by kernel_rfl

theorem own_blk {w : World} {base : Nat} {e : TypeId} {size : Nat} {v : Value} {n : Nat} {xs : List Value} (h : w.ownsRow base e size v n xs) {k : Nat} (hk : v.ownBlock = some k) : k < w.heap.size := by
  rcases h.2 with ⟨h1, _⟩ | ⟨g, c, cur, hv, _, hg, _⟩
  · rw [h1] at hk; cases hk
  · rw [hv] at hk
    simp [Value.ownBlock] at hk
    subst hk
    exact heap_lt hg
theorem own_at {w : World} {base : Nat} {e : TypeId} {size g l c : Nat} {n : Nat} {xs : List Value} (h : w.ownsRow base e size (.slice (some ⟨g, 0, none⟩) l c) n xs) : base ≤ g := by
  rcases h.2 with ⟨h1, _⟩ | ⟨g', c', cur, hv, hb, _⟩
  · cases h1
  · simp at hv
    obtain ⟨rfl, _⟩ := hv
    exact hb
theorem own_apart {w : World} {base base' : Nat} {e e' : TypeId} {size size' : Nat} {v : Value} {n n' g l c : Nat} {xs xs' : List Value} (h : w.ownsRow base e size v n xs) (h' : w.ownsRow base' e' size' (.slice (some ⟨g, 0, none⟩) l c) n' xs') (he : e ≠ e') : v.ownBlock ≠ some g := by
  intro hv
  rcases h'.2 with ⟨h1, _⟩ | ⟨g', c', cur', hv', _, hg', _⟩
  · cases h1
  · simp at hv'
    obtain ⟨rfl, _⟩ := hv'
    rcases h.2 with ⟨h1, _⟩ | ⟨g2, c2, cur, hv2, _, hg2, _⟩
    · rw [h1] at hv; cases hv
    · rw [hv2] at hv
      simp [Value.ownBlock] at hv
      subst hv
      rw [hg2] at hg'
      simp at hg'
      exact he hg'.2
theorem size_alloc1
 (w : World) (o : Obj) : (w.alloc o).heap.size = w.heap.size + 1 := by simp
set_option maxHeartbeats 1000000 in
set_option maxRecDepth 100000 in
theorem parse_one

 (w : World) (hE : Env w) : Calls Tryz.prog 12 #[.string text1] w fun e w' => ∃ g cg r c, e = .returned (.tuple #[.string ⟨#[97, 98, 99]⟩, .slice (some ⟨g, 0, none⟩) 1 cg, .nilIface]) ∧
    w'.ownsRow w.heap.size 45 2 (.slice (some ⟨g, 0, none⟩) 1 cg) 1 [.slice (some ⟨r, 0, none⟩) 2 c, .int .i64 2] ∧ w'.ownsRow w.heap.size 3 1 (.slice (some ⟨r, 0, none⟩) 2 c) 2 [.int .i64 (-5), .int .i64 7] ∧ Below w.heap.size w w' := by
  obtain ⟨i37, hi, hz0, hz1, hz2⟩ := info_parts info37
  have h9 := hE.size
  have HE := Lib.hid hE
  clear hE
  go_enter Tryz.func12, Tryz.ntmps12
  go_wp2_with fail
  have hbox : (w.alloc (.cells #[.pointer none, .slice none 0 0] 54)).heap[w.heap.size]? = some (.cells #[.pointer none, .slice none 0 0] 54 (0, 0)) := heap_alloc_new w _
  have hb0 : Below w.heap.size w (w.alloc (.cells #[.pointer none, .slice none 0 0] 54)) := (Below.refl _ w).alloc (Nat.le_refl _) _
  have hs0 : (w.alloc (.cells #[.pointer none, .slice none 0 0] 54)).heap.size = w.heap.size + 1 := by simp
  generalize w.alloc (.cells #[.pointer none, .slice none 0 0] 54) = W0 at *
  generalize hA : w.heap.size = A at *
  have HBX := Lib.hid hbox
  have HB0 := Lib.hid hb0
  have HS0 := Lib.hid hs0
  clear hbox hb0 hs0
  refine wp_loop_rounds 4 ?_
  rw [rounds_succ]
  go_wp2_with (go_at_call 23; refine (cut_any text1 src1 text1a true cut1 (by decide) W0 (HE.out.keep HB0.out h9)).mono ?_)
  rintro e W1 ⟨rfl, n1, hW1⟩
  have hbx1 : W1.heap[A]? = some (.cells #[.pointer none, .slice none 0 0] 54 (0, 0)) := by rw [hW1]; exact HBX.out
  have hb1 : Below A w W1 := by rw [hW1]; exact below_drew HB0.out n1
  have hs1 : W1.heap.size = A + 1 := by rw [hW1]; exact HS0.out
  have HBX1 := Lib.hid hbx1
  have HB1 := Lib.hid hb1
  have HS1 := Lib.hid hs1
  clear hbx1 hb1 hs1 hW1
  go_wp2_with (go_at_call 24; refine (srcs1 W1).mono ?_)
  rintro e W2 ⟨rfl, hb2⟩
  have hbx2 := (hb2.block A (by rw [HS1.out]; omega)).trans HBX1.out
  have hbb2 := HB1.out.trans (hb2.mono (by rw [HS1.out]; omega))
  have hs2 : A + 1 ≤ W2.heap.size := by have := hb2.size; rw [HS1.out] at this; exact this
  have HBX2 := Lib.hid hbx2
  have HB2 := Lib.hid hbb2
  clear hb2 hbx2 hbb2
  go_wp2_with (go_at_call 25; refine (write_fresh A A ⟨#[97, 98]⟩ W2 (Nat.le_refl _) HBX2.out (by decide) (by omega)).mono ?_)
  rintro e W3 ⟨rfl, v1, hbl3, hb3, hk3⟩
  have hbb3 := HB2.out.trans hb3
  have HL3 := Lib.hid hbl3
  have HB3 := Lib.hid hbb3
  clear hbl3 hb3 hbb3 hk3
  go_wp2_with fail
  rw [rounds_succ]
  go_wp2_with (go_at_call 23; refine (cut_any text1a line1 text1b true cut1a (by decide) W3 (HE.out.keep HB3.out h9)).mono ?_)
  rintro e W4 ⟨rfl, n4, hW4⟩
  have hl4 : Bld W4 A A v1 (Lib.strCells ⟨#[97, 98]⟩) := by rw [hW4]; exact HL3.out.keep (fun k _ => rfl)
  have hb4 : Below A w W4 := by rw [hW4]; exact below_drew HB3.out n4
  have HL4 := Lib.hid hl4
  have HB4 := Lib.hid hb4
  clear hl4 hb4 hW4
  go_wp2_with (first | (go_at_call 24; refine (source_miss line1 (by kernel_rfl) W4).mono ?_; rintro e W4 ⟨rfl, rfl⟩) | (go_at_call 26; refine (scan_one _ (HE.out.keep HB4.out h9)).mono ?_))
  rintro e W5 ⟨r, c, rfl, hor5, hb5⟩
  have hA4 : A < W4.heap.size := heap_lt HL4.out.box
  have hl5 : Bld W5 A A v1 (Lib.strCells ⟨#[97, 98]⟩) := HL4.out.keep (fun k hk => hb5.block k hk)
  have hv1 : ∀ k, v1.ownBlock = some k → k < W4.heap.size := fun k hk => own_blk HL4.out.own hk
  have hbb5 : Below A w W5 := HB4.out.trans (hb5.mono (Nat.le_of_lt hA4))
  have hs5 := hb5.size
  have HL5 := Lib.hid hl5
  have HB5 := Lib.hid hbb5
  have HR5 := Lib.hid hor5
  clear hl5 hb5 hbb5 hor5
  generalize hM : W4.heap.size = M at *
  go_wp2_with (at_builtin; refine wpList_append_own _ rfl (.tmp 44) (.tmp 46) 22 rfl M 45 i37 (.agg #[.slice none 0 0, .int .i64 0]) 2 32 Tryz.underlying22 hi hz0 hz1 hz2 rfl (by decide) (.slice none 0 0) 0 [] rfl (World.ownsRow_nil _ _ _ _) ⟨W5.heap.size + 1, 0, none⟩ 1 1 [.slice (some ⟨r, 0, none⟩) 2 c, .int .i64 2] rfl rfl ?c1 ?c2 ?c3 ?c4 ?c5 ?_)
  case c1 =>
    have h := heap_alloc_new (W5.alloc (.cells #[.slice (some ⟨r, 0, none⟩) 2 c, .int .i64 2] 45)) (.cells #[.slice (some ⟨r, 0, none⟩) 2 c, .int .i64 2] 45)
    simp only [size_alloc1] at h
    intro j u hj
    match j, hj with
    | 0, hj => simp at hj; subst hj; show World.cell? _ ⟨W5.heap.size + 1, 0, none⟩ = _; rw [Lib.cell_of_heap h]; rfl
    | 1, hj => simp at hj; subst hj; show World.cell? _ ⟨W5.heap.size + 1, 1, none⟩ = _; rw [Lib.cell_of_heap h]; rfl
  case c2 => intro u hu; simp at hu; rcases hu with rfl | rfl <;> rfl
  case c3 => unfold maxLen; omega
  case c4 => omega
  case c5 => simp; omega
  intro v2 W6 hog6 hgrow6 _
  obtain ⟨g, cg, rfl, hg6⟩ := own_form hog6 (by decide)
  have hk6 : ∀ k, k < W5.heap.size → W6.heap[k]? = W5.heap[k]? := fun k hk => by
    rw [hgrow6.block k (by simp; omega) (fun e => by cases e), Lib.alloc_old _ _ k (by simp; omega), Lib.alloc_old _ _ k hk]
  have hb6 := ((HB5.out.alloc (Nat.le_trans (Nat.le_of_lt hA4) hs5) (.cells #[.slice (some ⟨r, 0, none⟩) 2 c, .int .i64 2] 45)).alloc (by simp; omega) (.cells #[.slice (some ⟨r, 0, none⟩) 2 c, .int .i64 2] 45)).grown hgrow6 (by simp; omega) (fun k hk => by cases hk)
  have hl6 := HL5.out.keep hk6
  have hr6 := own_keep (w' := W6) HR5.out (fun k hk _ _ => hk6 k hk)
  have HL6 := Lib.hid hl6
  have HB6 := Lib.hid hb6
  have HR6 := Lib.hid hr6
  have HG6 := Lib.hid hog6
  clear hl6 hb6 hr6 hog6 hk6 hgrow6
  go_wp2_with fail
  rw [rounds_succ]
  go_wp2_with (go_at_call 23; refine (cut_any text1b src2 ⟨#[]⟩ true cut1b (by decide) W6 (HE.out.keep HB6.out h9)).mono ?_)
  rintro e W7 ⟨rfl, n7, hW7⟩
  have hl7 : Bld W7 A A v1 (Lib.strCells ⟨#[97, 98]⟩) := by rw [hW7]; exact HL6.out.keep (fun k _ => rfl)
  have hb7 : Below A w W7 := by rw [hW7]; exact below_drew HB6.out n7
  have hr7 : W7.ownsRow M 3 1 (.slice (some ⟨r, 0, none⟩) 2 c) 2 [.int .i64 (-5), .int .i64 7] := by rw [hW7]; exact HR6.out
  have hg7 : W7.ownsRow M 45 2 (.slice (some ⟨g, 0, none⟩) 1 cg) 1 [.slice (some ⟨r, 0, none⟩) 2 c, .int .i64 2] := by rw [hW7]; exact HG6.out
  have HL7 := Lib.hid hl7
  have HB7 := Lib.hid hb7
  have HR7 := Lib.hid hr7
  have HG7 := Lib.hid hg7
  clear hl7 hb7 hr7 hg7 hW7
  go_wp2_with (go_at_call 24; refine (srcs2 W7).mono ?_)
  rintro e W8 ⟨rfl, hb8'⟩
  have hA7 : A < W7.heap.size := heap_lt HL7.out.box
  have hl8 := HL7.out.keep (w' := W8) (fun k hk => hb8'.block k hk)
  have hb8 := HB7.out.trans (hb8'.mono (Nat.le_of_lt hA7))
  have hr8 := own_keep (w' := W8) HR7.out (fun k hk _ _ => hb8'.block k hk)
  have hg8 := own_keep (w' := W8) HG7.out (fun k hk _ _ => hb8'.block k hk)
  have hA8 : A ≤ W8.heap.size := Nat.le_trans (Nat.le_of_lt hA7) hb8'.size
  have HL8 := Lib.hid hl8
  have HB8 := Lib.hid hb8
  have HR8 := Lib.hid hr8
  have HG8 := Lib.hid hg8
  clear hl8 hb8 hr8 hg8 hb8'
  go_wp2_with (go_at_call 25; refine (write_used A A v1 _ ⟨#[99]⟩ W8 HL8.out (by decide) hA8).mono ?_)
  rintro e W9 ⟨rfl, v3, hl9, hb9', hk9⟩
  have hb9 := HB8.out.trans hb9'
  have hn9 : ∀ k, M ≤ k → k ≠ A ∧ v1.ownBlock ≠ some k := fun k hk => ⟨by omega, fun e => by have := hv1 k e; omega⟩
  have hr9 := own_keep (w' := W9) HR8.out (fun k hk hb _ => hk9.block k hk (hn9 k hb).1 (hn9 k hb).2)
  have hg9 := own_keep (w' := W9) HG8.out (fun k hk hb _ => hk9.block k hk (hn9 k hb).1 (hn9 k hb).2)
  have hp1 := own_apart hl9.own hr9 (by decide)
  have hp2 := own_apart hl9.own hg9 (by decide)
  have HL9 := Lib.hid hl9
  have HB9 := Lib.hid hb9
  have HR9 := Lib.hid hr9
  have HG9 := Lib.hid hg9
  have HP1 := Lib.hid hp1
  have HP2 := Lib.hid hp2
  clear hl9 hb9 hr9 hg9 hk9 hb9' hn9 hp1 hp2
  go_wp2_with fail
  rw [rounds_succ]
  go_wp2_with (go_at_call 27; refine (string_kept A A v3 [97, 98, 99] W9 HL9.out (by decide)).mono ?_)
  rintro e W10 ⟨rfl, hb10', hk10⟩
  have hb10 := HB9.out.trans hb10'
  have hg0 : M ≤ g := hg6
  have hr0 : M ≤ r := own_at HR9.out
  have hr10 := own_keep (w' := W10) HR9.out (fun k hk hb hx => by
    simp only [Value.ownBlock, Option.some.injEq] at hx
    subst hx
    exact hk10.block _ hk (by omega) HP1.out)
  have hg10 := own_keep (w' := W10) HG9.out (fun k hk hb hx => by
    simp only [Value.ownBlock, Option.some.injEq] at hx
    subst hx
    exact hk10.block _ hk (by omega) HP2.out)
  have HB10 := Lib.hid hb10
  have HR10 := Lib.hid (own_mono hr10 (Nat.le_of_lt hA4))
  have HG10 := Lib.hid (own_mono hg10 (Nat.le_of_lt hA4))
  clear hb10 hb10' hk10 hr10 hg10
  go_wp2_with fail
  go_ret3
  exact ⟨g, cg, r, c, rfl, by rw [hA]; exact HG10.out, by rw [hA]; exact HR10.out, by rw [hA]; exact HB10.out⟩
end Go.Proofs.YtjbagjmjbfiddaaGreatDoor
