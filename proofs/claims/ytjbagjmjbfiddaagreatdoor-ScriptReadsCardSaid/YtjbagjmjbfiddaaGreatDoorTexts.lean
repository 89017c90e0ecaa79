/-
  Parse at any text: which line it refuses first.
-/
import Derived.Test.YtjbagjmjbfiddaaGreatDoorScans
import Derived.Test.YtjbagjmjbfiddaaGreatDoorParse
namespace Go.Proofs.YtjbagjmjbfiddaaGreatDoor
open Go.ChangeShapes Go.WideShapes Go.ChangeAt Go.RowKit Go.Sort

def badOf (s : ByteArray) : Option Nat := badLine s.data.toList.length s.data.toList 1

theorem readOf_size (s : ByteArray) : (readOf s).1.size ≤ s.size := by
  unfold readOf
  split
  · exact Nat.zero_le _
  · split
    · exact Nat.zero_le _
    · split
      · show (vals s (s.size / 2)).toArray.size ≤ _
        simp [vals_len]
        omega
      · exact Nat.zero_le _
theorem trimPrefix_len (l p : List UInt8) : (Lib.trimPrefix l p).length ≤ l.length := by
  unfold Lib.trimPrefix
  split
  · simp
  · exact Nat.le_refl _
theorem mk_size (l : List UInt8) : (⟨l.toArray⟩ : ByteArray).size = l.length := by show l.toArray.size = _; simp
theorem source_any (line : ByteArray) (hl : line.size ≤ 1000000) (w : World) :
    Calls Tryz.prog 24 #[.string line] w fun e w' => ∃ p : ByteArray, e = .returned (.tuple #[.string p, .bool (srcOk line.data.toList)]) ∧ p.size ≤ line.size ∧ Below w.heap.size w w' := by
  by_cases h2 : Lib.hasPrefix line.data.toList [115, 114, 99, 32] = true
  · have hsz : (⟨(Lib.trimPrefix line.data.toList [115, 114, 99, 32]).toArray⟩ : ByteArray).size ≤ line.size := by
      rw [mk_size]
      exact trimPrefix_len _ _
    refine (source_hit line _ _ rfl h2 rfl (Nat.le_trans hsz hl) w).mono ?_
    rintro e w' ⟨rfl, hb⟩
    refine ⟨_, ?_, Nat.le_trans (readOf_size _) hsz, hb⟩
    unfold srcOk
    rw [h2]
    rfl
  · have h3 : Lib.hasPrefix line.data.toList [115, 114, 99, 32] = false := by simpa using h2
    refine (source_miss line h3 w).mono ?_
    rintro e w' ⟨rfl, rfl⟩
    refine ⟨⟨#[]⟩, ?_, Nat.zero_le _, Below.refl _ _⟩
    unfold srcOk
    rw [h3]
    rfl

/-- the builder: not yet written, or with some bytes -/
def Bl (w : World) (A : Nat) (l : List UInt8) : Prop := (w.heap[A]? = some (.cells #[.pointer none, .slice none 0 0] 54 (0, 0)) ∧ l = []) ∨ ∃ v, Bld w A A v (Lib.byteCells l)
theorem Bl.keep {w w' : World} {A : Nat} {l : List UInt8} (h : Bl w A l) (hk : ∀ k, k < w.heap.size → w'.heap[k]? = w.heap[k]?) : Bl w' A l := by
  rcases h with ⟨h, hl⟩ | ⟨v, h⟩
  · exact .inl ⟨(hk A (heap_lt h)).trans h, hl⟩
  · exact .inr ⟨v, h.keep hk⟩
theorem Bl.lt {w : World} {A : Nat} {l : List UInt8} (h : Bl w A l) : A < w.heap.size := by
  rcases h with ⟨h, _⟩ | ⟨v, h⟩
  · exact heap_lt h
  · exact heap_lt h.box
/-- a row of another kind is no part of the builder -/
theorem Bl.apart {w : World} {A : Nat} {l : List UInt8} (h : Bl w A l) {u : Value} {m : Nat} {xs : List Value} (ho : w.ownsRow A 45 2 u m xs) : u.ownBlock ≠ some A ∧ ∀ v, Bld w A A v (Lib.byteCells l) → ∀ k, v.ownBlock = some k → u.ownBlock ≠ some k := by
  refine ⟨fun hu => ?_, fun v hv k hk hu => ?_⟩
  · rcases ho.2 with ⟨h1, _⟩ | ⟨g, c, cur, hu', _, hg, _⟩
    · rw [h1] at hu; cases hu
    · rw [hu'] at hu
      simp [Value.ownBlock] at hu
      subst hu
      rcases h with ⟨h, _⟩ | ⟨v, h⟩
      · rw [h] at hg; simp at hg
      · rw [h.box] at hg; simp at hg
  · rcases ho.2 with ⟨h1, _⟩ | ⟨g, c, cur, hu', _, hg, _⟩
    · rw [h1] at hu; cases hu
    · rw [hu'] at hu
      simp [Value.ownBlock] at hu
      subst hu
      rcases hv.own.2 with ⟨h1, _⟩ | ⟨g2, c2, cur2, hv2, _, hg2, _⟩
      · rw [h1] at hk; cases hk
      · rw [hv2] at hk
        simp [Value.ownBlock] at hk
        subst hk
        rw [hg2] at hg
        simp at hg
/-- WriteString at such a builder; a row of scans stays -/
theorem write_bl (A : Nat) (l : List UInt8) (s : ByteArray) (w : World) (h : Bl w A l) (hlen : l.length + s.size ≤ 140737488355328) {u : Value} {m : Nat} {xs : List Value} (ho : w.ownsRow A 45 2 u m xs) :
    Calls Tryz.prog 25 #[.pointer (some ⟨A, 0, none⟩), .string s] w fun e w' => e = .returned (.tuple #[.int .i64 s.size, .nilIface]) ∧ Bl w' A (l ++ s.data.toList) ∧ w'.ownsRow A 45 2 u m xs ∧ Below A w w' := by
  have hlt := h.lt
  obtain ⟨n1, n2⟩ := h.apart ho
  rcases h with ⟨h, rfl⟩ | ⟨v, h⟩
  · refine (write_fresh A A s w (Nat.le_refl _) h (by simp at hlen; omega) (Nat.le_of_lt hlt)).mono ?_
    rintro e w' ⟨rfl, v', hb, hbl, hk⟩
    exact ⟨rfl, .inr ⟨v', hb⟩, own_keep ho (fun k hk' _ hu => hk.block k hk' (fun e => n1 (by rw [← e]; exact hu)) (by simp)), hbl⟩
  · refine (write_used A A v _ s w h (by rw [Lib.byteCells_length]; exact hlen) (Nat.le_of_lt hlt)).mono ?_
    rintro e w' ⟨rfl, v', hb, hbl, hk⟩
    refine ⟨rfl, .inr ⟨v', by rw [Lib.byteCells_append]; exact hb⟩, own_keep ho (fun k hk' _ hu => hk.block k hk' (fun e => n1 (by rw [← e]; exact hu)) (fun e => n2 v h k e hu)), hbl⟩
theorem Bl.grow {w w' : World} {A : Nat} {l : List UInt8} (h : Bl w A l) {u : Value} {m : Nat} {xs : List Value} (ho : w.ownsRow A 45 2 u m xs) (hk : ∀ k, k < w.heap.size → u.ownBlock ≠ some k → w'.heap[k]? = w.heap[k]?) : Bl w' A l := by
  obtain ⟨n1, n2⟩ := h.apart ho
  rcases h with ⟨h, hl⟩ | ⟨v, h⟩
  · exact .inl ⟨(hk A (heap_lt h) n1).trans h, hl⟩
  · refine .inr ⟨v, h.low, (hk A (heap_lt h.box) n1).trans h.box, own_keep h.own (fun k hk' _ hv => hk k hk' (n2 v h k hv)), h.ne⟩
theorem string_bl
 (A : Nat) (l : List UInt8) (w : World) (h : Bl w A l) :
    Calls Tryz.prog 27 #[.pointer (some ⟨A, 0, none⟩)] w fun e w' => e = .returned (.string ⟨l.toArray⟩) ∧ Below A w w' := by
  have hlt := h.lt
  refine Tryz.Builder_String_any A A l w ?_ (Nat.le_of_lt hlt)
  rcases h with ⟨h, rfl⟩ | ⟨v, h⟩
  · exact .inl ⟨Nat.le_refl _, _, h, World.ownsRow_nil _ _ _ _, by simp [Value.ownBlock]⟩
  · exact .inr h.at

theorem list_ne {s : ByteArray} (h : s.size ≠ 0) : (s.toList == []) = false := by
  rw [← Bool.not_eq_true]
  intro h'
  have : s.toList = [] := by simpa using h'
  rw [ByteArray.toList_eq] at this
  exact h (List.length_eq_zero_iff.mpr this)

theorem cutL_sum : ∀ l, (cutL l).1.length + (cutL l).2.length ≤ l.length
  | [] => Nat.le_refl _
  | c :: r => by
    unfold cutL
    split
    · simp
    · have := cutL_sum r; simp; omega
def lenOf : Value → Nat | .string c => c.size | _ => 0
set_option maxHeartbeats 2000000 in
set_option maxRecDepth 100000 in
theorem parse_any (s : ByteArray) (hs : s.size ≤ 65536) (w : World) (hE : Env2 w) : Calls Tryz.prog 12 #[.string s] w fun e w' =>
    ((∃ n g, badOf s = some n ∧ e = .returned (.tuple #[.string ⟨#[]⟩, .slice none 0 0, .iface 68 (.pointer (some ⟨g, 0, none⟩))]) ∧ w'.heap[g]? = some (.cells #[.int .i64 23, .int .i64 (n : Nat), .nilIface] 72 (0, 0)))
      ∨ (badOf s = none ∧ ∃ str ao len cap, e = .returned (.tuple #[.string str, .slice ao len cap, .nilIface]))) ∧ Below w.heap.size w w' := by
  obtain ⟨i37, hi, hz0, hz1, hz2⟩ := info_parts info37
  have h9 := hE.size
  have HE := Lib.hid hE
  clear hE
  have hs' : decide (65536 < (s.size : Int)) = false := decide_eq_false (by omega)
  generalize hBad : badOf s = Bad
  have HBad := Lib.hid hBad
  clear hBad
  go_enter Tryz.func12, Tryz.ntmps12
  go_wp2_with fail
  have hbox : (w.alloc (.cells #[.pointer none, .slice none 0 0] 54)).heap[w.heap.size]? = some (.cells #[.pointer none, .slice none 0 0] 54 (0, 0)) := heap_alloc_new w _
  have hb0 : Below w.heap.size w (w.alloc (.cells #[.pointer none, .slice none 0 0] 54)) := (Below.refl _ w).alloc (Nat.le_refl _) _
  have hs0 : (w.alloc (.cells #[.pointer none, .slice none 0 0] 54)).heap.size = w.heap.size + 1 := by simp
  generalize w.alloc (.cells #[.pointer none, .slice none 0 0] 54) = W0 at *
  generalize hA : w.heap.size = A at *
  go_loopw [0, 6, 7] (fun sv u nv wr => ∃ (cur : ByteArray) (n f m : Nat) (xs : List Value) (l : List UInt8), sv = .string cur ∧ nv = .int .i64 (n : Nat) ∧ cur.size ≤ f ∧ badLine f cur.data.toList n = Bad ∧ n + cur.size ≤ s.size + 1 ∧ wr.ownsRow A 45 2 u m xs ∧ m ≤ n ∧ Bl wr A l ∧ l.length + cur.size ≤ s.size ∧ Below A w wr)
    (fun sv _ _ _ => lenOf sv)
  case atStart => exact ⟨s, 1, s.data.toList.length, 0, [], [], rfl, rfl, Nat.le_refl _, HBad.out, by omega, World.ownsRow_nil _ _ _ _, Nat.zero_le _, .inl ⟨hbox, rfl⟩, by simp, hb0⟩
  case round =>
    clear hbox hb0 hs0
    obtain ⟨cur, n, f, m, xs, l, rfl, rfl, hf, hbad, hn, hown, hmn, hbl, hll, hb⟩ := hrel
    have HO := Lib.hid hown
    have HL := Lib.hid hbl
    have HB := Lib.hid hb
    have HN := Lib.hid hbad
    clear hown hbl hb hbad
    by_cases hc0 : cur.size = 0
    · have hce : cur = ⟨#[]⟩ := by
        rcases cur with ⟨⟨c⟩⟩
        have : c.length = 0 := hc0
        rw [List.length_eq_zero_iff.mp this]
      have hB : Bad = none := by
        rw [← HN.out, hce]
        exact badLine_nil _ _
      have HBN := Lib.hid (HBad.out.trans hB)
      have HB2 := Lib.hid hB
      clear hB
      subst hce
      have hlt := HL.out.lt
      go_wp2_with (go_at_call 27; refine (string_bl A l wr HL.out).mono ?_)
      rintro e W1 rfl hb1
      have HB1 := Lib.hid (HB.out.trans hb1)

      clear hb1
      obtain ⟨ao, vn, vc, rfl⟩ : ∃ ao vn vc, u6 = .slice ao vn vc := by
        rcases HO.out.2 with ⟨h1, _⟩ | ⟨g, c, _, hv, _⟩
        · exact ⟨_, _, _, h1⟩
        · exact ⟨_, _, _, hv⟩
      go_wp2_with fail
      go_ret3
      exact ⟨.inr ⟨HB2.out, _, _, _, _, rfl⟩, by rw [hA]; exact HB1.out⟩
    · have hne := list_ne hc0
      have hE1 := HE.out.keep HB.out h9
      obtain ⟨mm, hmm⟩ := hE1.most
      have hcut := Tryz.strings_Cut cur ⟨#[10]⟩ mm wr (by omega) hmm
      obtain ⟨bc, hbc⟩ := cut_cutL cur.data.toList
      rw [show (⟨#[10]⟩ : ByteArray).data.toList = [10] from rfl, hbc] at hcut
      obtain ⟨f', rfl⟩ : ∃ f', f = f' + 1 := ⟨f - 1, by omega⟩
      have hcl : cur.data.toList ≠ [] := fun h => hc0 (by show cur.data.toList.length = 0; rw [h]; rfl)
      have hlt := cutL_lt hcl
      have hsum := cutL_sum cur.data.toList
      have hcs : cur.data.toList.length = cur.size := rfl
      have hstep : (if lineOk (cutL cur.data.toList).1 then badLine f' (cutL cur.data.toList).2 (n + 1) else some n) = Bad := by
        have := HN.out
        unfold badLine at this
        rw [if_neg hcl] at this
        exact this
      obtain ⟨line, hline⟩ : ∃ line : ByteArray, (⟨(cutL cur.data.toList).1.toArray⟩ : ByteArray) = line := ⟨_, rfl⟩
      obtain ⟨rest, hrest⟩ : ∃ rest : ByteArray, (⟨(cutL cur.data.toList).2.toArray⟩ : ByteArray) = rest := ⟨_, rfl⟩
      have hl1 : (cutL cur.data.toList).1 = line.data.toList := by rw [← hline]
      have hr1 : (cutL cur.data.toList).2 = rest.data.toList := by rw [← hrest]
      simp only at hcut
      rw [hline, hrest] at hcut
      rw [hl1, hr1] at hstep hsum
      rw [hr1] at hlt
      have hls : line.data.toList.length = line.size := rfl
      have hrs : rest.data.toList.length = rest.size := rfl
      rw [hls, hrs, hcs] at hsum
      rw [hrs, hcs] at hlt
      have HST := Lib.hid hstep
      clear hstep hbc hcl hline hrest hl1 hr1 hmm hE1 HN
      go_wp2_with (go_at_call 23; refine hcut.mono ?_)
      rintro e W1 ⟨rfl, n1, hW1⟩
      have hb1 : Below A w W1 := by rw [hW1]; exact below_drew HB.out n1
      have hl1 : Bl W1 A l := by rw [hW1]; exact HL.out.keep (fun k _ => rfl)
      have ho1 : W1.ownsRow A 45 2 u6 m xs := by rw [hW1]; exact HO.out
      have HB1 := Lib.hid hb1
      have HL1 := Lib.hid hl1
      have HO1 := Lib.hid ho1
      clear hb1 hl1 ho1 hW1 hcut
      go_wp2_with (go_at_call 24; refine (source_any line (by omega) W1).mono ?_)
      rintro e W2 ⟨p, rfl, hp, hb2⟩
      have hA1 := HL1.out.lt
      have HB2 := Lib.hid (HB1.out.trans (hb2.mono (Nat.le_of_lt hA1)))
      have HL2 := Lib.hid (HL1.out.keep (w' := W2) (fun k hk => hb2.block k hk))
      have HO2 := Lib.hid (own_keep (w' := W2) HO1.out (fun k hk _ _ => hb2.block k hk))
      clear hb2
      have hnw : IntKind.i64.wrap ((n : Int) + 1) = (n : Int) + 1 := IntWalk.i64_in _ (by omega)
      cases hso : srcOk line.data.toList with
      | true =>
        have hlo : lineOk line.data.toList = true := by unfold lineOk; rw [hso]; rfl
        have hst := HST.out
        rw [hlo, if_pos rfl] at hst
        have HST2 := Lib.hid hst
        clear hst hlo hso
        go_wp2_with (go_at_call 25; refine (write_bl A l p W2 HL2.out (by omega) HO2.out).mono ?_)
        rintro e W3 ⟨rfl, hl3, ho3, hb3⟩
        have HB3 := Lib.hid (HB2.out.trans hb3)
        have HL3 := Lib.hid hl3
        have HO3 := Lib.hid ho3
        clear hb3 hl3 ho3
        go_wp2_with fail
        have hps : p.data.toList.length = p.size := rfl
        refine ⟨⟨rest, n + 1, f', m, xs, l ++ p.data.toList, rfl, by go_num, by omega, HST2.out, by omega, HO3.out, by omega, HL3.out, by rw [List.length_append, hps]; omega, HB3.out⟩, ?_⟩
        simp [lenOf]
        omega
      | false =>
        go_wp2_with (go_at_call 26; refine (scan_any line (by omega) W2 (HE.out.keep HB2.out h9)).mono ?_)
        rintro e W3 ⟨ao, vn, vc, t, rfl, hb3⟩
        have hA2 := HL2.out.lt
        have HB3 := Lib.hid (HB2.out.trans (hb3.mono (Nat.le_of_lt hA2)))
        have HL3 := Lib.hid (HL2.out.keep (w' := W3) (fun k hk => hb3.block k hk))
        have HO3 := Lib.hid (own_keep (w' := W3) HO2.out (fun k hk _ _ => hb3.block k hk))
        have hA3 := HL3.out.lt
        clear hb3
        have hlo : lineOk line.data.toList = scanOk line := by unfold lineOk; rw [hso]; rfl
        have hst := HST.out
        rw [hlo] at hst
        clear hlo hso
        cases hsc : scanOk line with
        | true =>
          rw [hsc, if_pos rfl] at hst
          have HST2 := Lib.hid hst
          clear hst hsc
          go_wp2_with (at_builtin; refine wpList_append_own _ rfl (.tmp 44) (.tmp 46) 22 rfl A 45 i37 (.agg #[.slice none 0 0, .int .i64 0]) 2 32 Tryz.underlying22 hi hz0 hz1 hz2 rfl (by decide) u6 m xs rfl ((HO3.out.alloc _).alloc _) ⟨W3.heap.size + 1, 0, none⟩ 1 1 [.slice ao vn vc, .int .i64 t] rfl rfl ?c1 ?c2 ?c3 ?c4 ?c5 ?_)
          case c1 =>
            have h := heap_alloc_new (W3.alloc (.cells #[.slice ao vn vc, .int .i64 t] 45)) (.cells #[.slice ao vn vc, .int .i64 t] 45)
            simp only [size_alloc1] at h
            intro j u hj
            match j, hj with
            | 0, hj => simp at hj; subst hj; show World.cell? _ ⟨W3.heap.size + 1, 0, none⟩ = _; rw [Lib.cell_of_heap h]; rfl
            | 1, hj => simp at hj; subst hj; show World.cell? _ ⟨W3.heap.size + 1, 1, none⟩ = _; rw [Lib.cell_of_heap h]; rfl
          case c2 => intro u hu; simp at hu; rcases hu with rfl | rfl <;> rfl
          case c3 => unfold maxLen; omega
          case c4 => omega
          case c5 => simp; omega
          intro v2 W4 hog hgrow _
          have hk4 : ∀ k, k < W3.heap.size → u6.ownBlock ≠ some k → W4.heap[k]? = W3.heap[k]? := fun k hk hu => by
            rw [hgrow.block k (by simp; omega) (fun e => hu e.symm), Lib.alloc_old _ _ k (by simp; omega), Lib.alloc_old _ _ k hk]
          have HL4 := Lib.hid (HL3.out.grow HO3.out hk4)
          have HB4 := Lib.hid (((HB3.out.alloc (Nat.le_of_lt hA3) (.cells #[.slice ao vn vc, .int .i64 t] 45)).alloc (by simp; omega) (.cells #[.slice ao vn vc, .int .i64 t] 45)).grown hgrow (by simp; omega) (fun k hk => own_base HO3.out k hk))
          have HO4 := Lib.hid hog
          clear hog hgrow hk4
          go_wp2_with fail
          refine ⟨⟨rest, n + 1, f', m + 1, _, l, rfl, by go_num, by omega, HST2.out, by omega, HO4.out, by omega, HL4.out, by omega, HB4.out⟩, ?_⟩
          simp [lenOf]
          omega
        | false =>
          rw [hsc] at hst
          have HST2 := Lib.hid (show some n = Bad from hst)
          clear hst hsc
          go_wp2_with (go_at_call 18; refine (new_any 23 (n : Int) _).mono ?_)
          rintro e W4 ⟨rfl, hW4⟩
          have hx4 : W4.heap[W3.heap.size + 1]? = some (.cells #[.int .i64 23, .int .i64 (n : Int), .nilIface] 72 (0, 0)) := by
            rw [hW4]
            have := heap_alloc_new (W3.alloc (.cells #[.slice ao vn vc, .int .i64 t] 45)) (.cells #[.int .i64 23, .int .i64 (n : Int), .nilIface] 72)
            rw [size_alloc1] at this
            exact this
          have hb4 : Below A w W4 := by rw [hW4]; exact (HB3.out.alloc (Nat.le_of_lt hA3) _).alloc (by simp; omega) _
          have HX4 := Lib.hid hx4
          have HB4 := Lib.hid hb4
          clear hx4 hb4 hW4
          go_wp2_with fail
          go_ret3
          exact ⟨.inl ⟨n, W3.heap.size + 1, HST2.out.symm, by rfl, HX4.out⟩, by rw [hA]; exact HB4.out⟩
end Go.Proofs.YtjbagjmjbfiddaaGreatDoor
