/-
  Parse at any text: what it reads, or which line it refuses first.
-/
import Derived.Test.YtjbagjmjbfiddaaGreatDoorTexts
import Derived.Test.YtjbagjmjbfiddaaGreatDoorScans2
import Derived.Test.YtjbagjmjbfiddaaGreatDoorArgs
namespace Go.Proofs.YtjbagjmjbfiddaaGreatDoor
open Go.ChangeShapes Go.WideShapes Go.ChangeAt Go.RowKit Go.Sort

def srcVal (l : List UInt8) : List UInt8 := (readOf ⟨(Lib.trimPrefix l [115, 114, 99, 32]).toArray⟩).1.data.toList
/-- what lines say: the first that is refused, or the bytes and the scans -/
def readL : Nat → List UInt8 → Nat → List UInt8 → List (Int × List Int) → Nat ⊕ (List UInt8 × List (Int × List Int))
  | 0, _, _, l, S => .inr (l, S)
  | f + 1, cur, n, l, S =>
    if cur = [] then .inr (l, S)
    else if srcOk (cutL cur).1 then readL f (cutL cur).2 (n + 1) (l ++ srcVal (cutL cur).1) S
    else if scanOk ⟨(cutL cur).1.toArray⟩ then readL f (cutL cur).2 (n + 1) l (S ++ [scanVal ⟨(cutL cur).1.toArray⟩])
    else .inl n
def readAll (s : ByteArray) : Nat ⊕ (List UInt8 × List (Int × List Int)) := readL s.data.toList.length s.data.toList 1 [] []
theorem readL_nil (f n : Nat) (l : List UInt8) (S : List (Int × List Int)) : readL f [] n l S = .inr (l, S) := by cases f <;> rfl
def val (x : ScA) : Int × List Int := (x.t, x.ns)
def flatS (S : List ScA) : List Value := S.flatMap fun x => [.slice x.a x.l x.c, .int .i64 x.t]
theorem flatS_snoc (S : List ScA) (x : ScA) : flatS (S ++ [x]) = flatS S ++ [.slice x.a x.l x.c, .int .i64 x.t] := by unfold flatS; simp
theorem flatS_at : ∀ (S : List ScA) (i : Nat) (x : ScA), S[i]? = some x → (flatS S)[2 * i]? = some (.slice x.a x.l x.c) ∧ (flatS S)[2 * i + 1]? = some (.int .i64 x.t)
  | [], i, x, h => by simp at h
  | y :: S, 0, x, h => by simp at h; subst h; exact ⟨rfl, rfl⟩
  | y :: S, i + 1, x, h => by
    have := flatS_at S i x (by simpa using h)
    have e : flatS (y :: S) = .slice y.a y.l y.c :: .int .i64 y.t :: flatS S := rfl
    rw [e, show 2 * (i + 1) = 2 * i + 1 + 1 by omega]
    simpa using this
def InsAt (w : World) (A : Nat) (S : List ScA) : Prop := ∀ x ∈ S, w.ownsRow A 3 1 (.slice x.a x.l x.c) x.l (x.ns.map (Value.int .i64))
theorem InsAt.keep {w w' : World} {A : Nat} {S : List ScA} (h : InsAt w A S) (hk : ∀ k, k < w.heap.size → w'.heap[k]? = w.heap[k]?) : InsAt w' A S :=
  fun x hx => own_keep (h x hx) (fun k hk' _ _ => hk k hk')
theorem InsAt.snoc {w : World} {A : Nat} {S : List ScA} {x : ScA} (h : InsAt w A S) (hx : w.ownsRow A 3 1 (.slice x.a x.l x.c) x.l (x.ns.map (Value.int .i64))) : InsAt w A (S ++ [x]) := by
  intro y hy
  rcases List.mem_append.1 hy with hy | hy
  · exact h y hy
  · simp at hy; subst hy; exact hx
theorem own_diff {w : World} {base base' : Nat} {e e' : TypeId} {size size' : Nat} {v v' : Value} {n n' : Nat} {xs xs' : List Value} (h : w.ownsRow base e size v n xs) (h' : w.ownsRow base' e' size' v' n' xs') (he : e ≠ e') {k : Nat} (hv : v.ownBlock = some k) : v'.ownBlock ≠ some k := by
  rcases h.2 with ⟨h1, _⟩ | ⟨g, c, cur, rfl, _⟩
  · rw [h1] at hv; cases hv
  · simp [Value.ownBlock] at hv
    subst hv
    exact own_apart h' h (Ne.symm he)
theorem InsAt.keepTo {w w' : World} {A : Nat} {S : List ScA} (h : InsAt w A S) {u : Value} {m : Nat} {xs : List Value} (hk : ∀ k, k < w.heap.size → u.ownBlock ≠ some k → w'.heap[k]? = w.heap[k]?) (ho : w.ownsRow A 45 2 u m xs) : InsAt w' A S :=
  fun x hx => own_keep (h x hx) (fun k hk' _ hv => hk k hk' (own_diff (h x hx) ho (by decide) hv))
theorem ints_of_own {w : World} {A : Nat} {a : Option Addr} {l c : Nat} {ns : List Int} (h : w.ownsRow A 3 1 (.slice a l c) l (ns.map (Value.int .i64))) : Ints w a l ns := by
  refine ⟨by simpa using h.1, fun hl => ?_⟩
  rcases h.2 with ⟨h1, h2⟩ | ⟨g, cap, cur, hv, _, hg, _, _, _, ht⟩
  · omega
  · simp at hv
    obtain ⟨rfl, _⟩ := hv
    refine ⟨g, 0, rfl, fun j x hx => ?_⟩
    rw [Lib.cell_of_heap hg]
    have hj : j < l := by have := (List.getElem?_eq_some_iff.1 hx).1; have := h.1; simp at this; omega
    have h3 : (ns.map (Value.int .i64))[j]? = some (.int .i64 x) := by simp [hx]
    rw [← ht, List.getElem?_take_of_lt (by omega)] at h3
    simpa using h3
def addrOf : Value → Option Addr | .slice a _ _ => a | _ => none
theorem scans_of {w : World} {A : Nat} {u : Value} {S : List ScA} (h : w.ownsRow A 45 2 u S.length (flatS S)) (hi : InsAt w A S) : Scans w (addrOf u) S := by
  intro hp
  rcases h.2 with ⟨h1, h2⟩ | ⟨g, cap, cur, hv, _, hg, _, _, _, ht⟩
  · omega
  · subst hv
    refine ⟨g, 0, rfl, fun i x hx => ?_⟩
    obtain ⟨e0, e1⟩ := flatS_at S i x hx
    have hj : i < S.length := (List.getElem?_eq_some_iff.1 hx).1
    rw [← ht, List.getElem?_take_of_lt (by omega)] at e0 e1
    refine ⟨?_, ?_, ints_of_own (hi x (List.mem_of_getElem? hx))⟩
    · rw [Lib.cell_of_heap hg]; simpa using e0
    · rw [Lib.cell_of_heap hg]; simpa using e1

/-- what is neither a builder nor a row of bytes stays -/
def Stays (w w' : World) : Prop := ∀ (k : Nat) (cur : Array Value) (t : TypeId), w.heap[k]? = some (Obj.cells cur t (0, 0)) → t ≠ 54 → t ≠ 5 → w'.heap[k]? = w.heap[k]?
theorem own_stays {w w' : World} {base : Nat} {e : TypeId} {size : Nat} {v : Value} {n : Nat} {xs : List Value} (h : w.ownsRow base e size v n xs) (hs : Stays w w') (h1 : e ≠ 54) (h2 : e ≠ 5) : w'.ownsRow base e size v n xs := by
  refine ⟨h.1, ?_⟩
  rcases h.2 with hh | ⟨g, c, cur, hv, hb, hg, hr⟩
  · exact .inl hh
  · exact .inr ⟨g, c, cur, hv, hb, (hs g cur e hg h1 h2).trans hg, hr⟩
theorem InsAt.stays {w w' : World} {A : Nat} {S : List ScA} (h : InsAt w A S) (hs : Stays w w') : InsAt w' A S := fun x hx => own_stays (h x hx) hs (by decide) (by decide)
theorem write_bl3 (A : Nat) (l : List UInt8) (s : ByteArray) (w : World) (h : Bl w A l) (hlen : l.length + s.size ≤ 140737488355328) :
    Calls Tryz.prog 25 #[.pointer (some ⟨A, 0, none⟩), .string s] w fun e w' => e = .returned (.tuple #[.int .i64 s.size, .nilIface]) ∧ Bl w' A (l ++ s.data.toList) ∧ Stays w w' ∧ Below A w w' := by
  have hlt := h.lt
  rcases h with ⟨h, rfl⟩ | ⟨v, h⟩
  · refine (write_fresh A A s w (Nat.le_refl _) h (by simp at hlen; omega) (Nat.le_of_lt hlt)).mono ?_
    rintro e w' ⟨rfl, v', hb, hbl, hk⟩
    refine ⟨rfl, .inr ⟨v', hb⟩, fun k cur t hg h1 h2 => hk.block k (heap_lt hg) (fun e => ?_) (by simp), hbl⟩
    rw [e, h] at hg
    simp at hg
    exact h1 hg.2.symm
  · refine (write_used A A v _ s w h (by rw [Lib.byteCells_length]; exact hlen) (Nat.le_of_lt hlt)).mono ?_
    rintro e w' ⟨rfl, v', hb, hbl, hk⟩
    refine ⟨rfl, .inr ⟨v', by rw [Lib.byteCells_append]; exact hb⟩, fun k cur t hg h1 h2 => hk.block k (heap_lt hg) (fun e => ?_) (fun e => ?_), hbl⟩
    · rw [e, h.box] at hg
      simp at hg
      exact h1 hg.2.symm
    · rcases h.own.2 with ⟨h3, _⟩ | ⟨g, c, cur', hv, _, hg', _⟩
      · rw [h3] at e; cases e
      · rw [hv] at e
        simp [Value.ownBlock] at e
        subst e
        rw [hg'] at hg
        simp at hg
        exact h2 hg.2.symm
theorem string_bl3 (A : Nat) (l : List UInt8) (w : World) (h : Bl w A l) :
    Calls Tryz.prog 27 #[.pointer (some ⟨A, 0, none⟩)] w fun e w' => e = .returned (.string ⟨l.toArray⟩) ∧ Stays w w' ∧ Below A w w' := by
  have hlt := h.lt
  have hI : Lib.IsBuilder 54 5 A A (Lib.byteCells l) w := by
    rcases h with ⟨h, rfl⟩ | ⟨v, h⟩
    · exact .inl ⟨Nat.le_refl _, _, h, World.ownsRow_nil _ _ _ _, by simp [Value.ownBlock]⟩
    · exact .inr h.at
  have hbox : ∃ c, w.heap[A]? = some (.cells c 54 (0, 0)) := by
    rcases h with ⟨h, rfl⟩ | ⟨v, h⟩
    · exact ⟨_, h⟩
    · exact ⟨_, h.box⟩
  refine (Tryz.Builder_String_any_k A A l w (.of hI) (Nat.le_of_lt hlt)).mono ?_
  rintro e w' ⟨rfl, -, hb, hk⟩
  refine ⟨rfl, fun k cur t hg h1 h2 => ?_, hb⟩
  obtain ⟨c, hc⟩ := hbox
  rw [hg]
  refine hk k _ hg (fun e => ?_) (fun c fz e => ?_)
  · obtain rfl := Option.some.inj e
    rw [hc] at hg
    simp at hg
    exact h1 hg.2.symm
  · simp at e
    exact h2 e.2.1
theorem source_all (line : ByteArray) (hl : line.size ≤ 1000000) (w : World) :
    Calls Tryz.prog 24 #[.string line] w fun e w' => ∃ p : ByteArray, e = .returned (.tuple #[.string p, .bool (srcOk line.data.toList)]) ∧ (srcOk line.data.toList = true → p.data.toList = srcVal line.data.toList) ∧ p.size ≤ line.size ∧ Below w.heap.size w w' := by
  by_cases h2 : Lib.hasPrefix line.data.toList [115, 114, 99, 32] = true
  · have hsz : (⟨(Lib.trimPrefix line.data.toList [115, 114, 99, 32]).toArray⟩ : ByteArray).size ≤ line.size := by
      rw [mk_size]
      exact trimPrefix_len _ _
    refine (source_hit line _ _ rfl h2 rfl (Nat.le_trans hsz hl) w).mono ?_
    rintro e w' ⟨rfl, hb⟩
    refine ⟨_, ?_, fun _ => rfl, Nat.le_trans (readOf_size _) hsz, hb⟩
    unfold srcOk
    rw [h2]
    rfl
  · have h3 : Lib.hasPrefix line.data.toList [115, 114, 99, 32] = false := by simpa using h2
    refine (source_miss line h3 w).mono ?_
    rintro e w' ⟨rfl, rfl⟩
    have h4 : srcOk line.data.toList = false := by
      unfold srcOk
      rw [h3]
      rfl
    exact ⟨⟨#[]⟩, by rw [h4], fun h => (by rw [h4] at h; cases h), Nat.zero_le _, Below.refl _ _⟩

set_option maxHeartbeats 2000000 in
set_option maxRecDepth 100000 in
theorem parse_all (s : ByteArray) (hs : s.size ≤ 65536) (w : World) (hE : Env2 w) : Calls Tryz.prog 12 #[.string s] w fun e w' =>
    ((∃ n g, readAll s = .inl n ∧ e = .returned (.tuple #[.string ⟨#[]⟩, .slice none 0 0, .iface 68 (.pointer (some ⟨g, 0, none⟩))]) ∧ w'.heap[g]? = some (.cells #[.int .i64 23, .int .i64 (n : Nat), .nilIface] 72 (0, 0)))
      ∨ (∃ l S ao cap, readAll s = .inr (l, S.map val) ∧ e = .returned (.tuple #[.string ⟨l.toArray⟩, .slice ao S.length cap, .nilIface]) ∧ Scans w' ao S ∧ l.length ≤ s.size ∧ S.length ≤ s.size + 1)) ∧ Below w.heap.size w w' := by
  obtain ⟨i37, hi, hz0, hz1, hz2⟩ := info_parts info37
  have h9 := hE.size
  have HE := Lib.hid hE
  clear hE
  have hs' : decide (65536 < (s.size : Int)) = false := decide_eq_false (by omega)
  generalize hBad : readAll s = Bad
  have HBad := Lib.hid hBad
  clear hBad
  go_enter Tryz.func12, Tryz.ntmps12
  go_wp2_with fail
  have hbox : (w.alloc (.cells #[.pointer none, .slice none 0 0] 54)).heap[w.heap.size]? = some (.cells #[.pointer none, .slice none 0 0] 54 (0, 0)) := heap_alloc_new w _
  have hb0 : Below w.heap.size w (w.alloc (.cells #[.pointer none, .slice none 0 0] 54)) := (Below.refl _ w).alloc (Nat.le_refl _) _
  have hs0 : (w.alloc (.cells #[.pointer none, .slice none 0 0] 54)).heap.size = w.heap.size + 1 := by simp
  generalize w.alloc (.cells #[.pointer none, .slice none 0 0] 54) = W0 at *
  generalize hA : w.heap.size = A at *
  go_loopw [0, 6, 7] (fun sv u nv wr => ∃ (cur : ByteArray) (n f : Nat) (S : List ScA) (l : List UInt8), sv = .string cur ∧ nv = .int .i64 (n : Nat) ∧ cur.size ≤ f ∧ readL f cur.data.toList n l (S.map val) = Bad ∧ n + cur.size ≤ s.size + 1 ∧ wr.ownsRow A 45 2 u S.length (flatS S) ∧ InsAt wr A S ∧ S.length ≤ n ∧ Bl wr A l ∧ l.length + cur.size ≤ s.size ∧ Below A w wr)
    (fun sv _ _ _ => lenOf sv)
  case atStart => exact ⟨s, 1, s.data.toList.length, [], [], rfl, rfl, Nat.le_refl _, HBad.out, by omega, World.ownsRow_nil _ _ _ _, fun x hx => (by cases hx), Nat.zero_le _, .inl ⟨hbox, rfl⟩, by simp, hb0⟩
  case round =>
    clear hbox hb0 hs0
    obtain ⟨cur, n, f, S, l, rfl, rfl, hf, hbad, hn, hown, hins, hmn, hbl, hll, hb⟩ := hrel
    have HI := Lib.hid hins
    have HO := Lib.hid hown
    have HL := Lib.hid hbl
    have HB := Lib.hid hb
    have HN := Lib.hid hbad
    clear hown hbl hb hbad hins
    by_cases hc0 : cur.size = 0
    · have hce : cur = ⟨#[]⟩ := by
        rcases cur with ⟨⟨c⟩⟩
        have : c.length = 0 := hc0
        rw [List.length_eq_zero_iff.mp this]
      have hB : Bad = .inr (l, S.map val) := by
        rw [← HN.out, hce]
        exact readL_nil _ _ _ _
      have HBN := Lib.hid (HBad.out.trans hB)
      have HB2 := Lib.hid hB
      clear hB
      subst hce
      have hlt := HL.out.lt
      go_wp2_with (go_at_call 27; refine (string_bl3 A l wr HL.out).mono ?_)
      first | rintro e W1 rfl hst1 hb1 | rintro e W1 ⟨rfl, hst1, hb1⟩ | rintro e W1 rfl ⟨hst1, hb1⟩
      have HB1 := Lib.hid (HB.out.trans hb1)
      have hSc := scans_of (own_stays HO.out hst1 (by decide) (by decide)) (HI.out.stays hst1)
      have HSC := Lib.hid hSc
      clear hb1 hst1 hSc
      obtain ⟨ao, vc, rfl⟩ : ∃ ao vc, u6 = .slice ao S.length vc := by
        rcases HO.out.2 with ⟨h1, h2⟩ | ⟨g, c, _, hv, _⟩
        · exact ⟨_, _, by rw [h1, h2]⟩
        · exact ⟨_, _, hv⟩
      go_wp2_with fail
      go_ret3
      exact ⟨.inr ⟨l, S, ao, vc, HB2.out, by rfl, HSC.out, by omega, by omega⟩, by rw [hA]; exact HB1.out⟩
    · have hne := list_ne hc0
      have hE1 := HE.out.keep HB.out h9
      obtain ⟨mm, hmm⟩ := hE1.most
      have hcut := Tryz.strings_Cut cur ⟨#[10]⟩ mm wr (by omega) hmm
      obtain ⟨bc, hbc⟩ := cut_cutL cur.data.toList
      rw [show (⟨#[10]⟩ : ByteArray).data.toList = [10] from rfl, hbc] at hcut
      obtain ⟨f', rfl⟩ : ∃ f', f = f' + 1 := ⟨f - 1, by omega⟩
      have hcl : cur.data.toList ≠ [] := fun h => hc0 (by show cur.data.toList.length = 0; rw [h]; rfl)
      have hlt := cutL_lt hcl
      have hsum := cutL_sum cur.data.toList
      have hcs : cur.data.toList.length = cur.size := rfl
      have hstep := HN.out
      unfold readL at hstep
      rw [if_neg hcl] at hstep
      obtain ⟨line, hline⟩ : ∃ line : ByteArray, (⟨(cutL cur.data.toList).1.toArray⟩ : ByteArray) = line := ⟨_, rfl⟩
      obtain ⟨rest, hrest⟩ : ∃ rest : ByteArray, (⟨(cutL cur.data.toList).2.toArray⟩ : ByteArray) = rest := ⟨_, rfl⟩
      have hl1 : (cutL cur.data.toList).1 = line.data.toList := by rw [← hline]
      have hr1 : (cutL cur.data.toList).2 = rest.data.toList := by rw [← hrest]
      simp only at hcut
      rw [hline, hrest] at hcut
      rw [hl1, hr1] at hstep hsum
      rw [hr1] at hlt
      have hls : line.data.toList.length = line.size := rfl
      have hrs : rest.data.toList.length = rest.size := rfl
      rw [hls, hrs, hcs] at hsum
      rw [hrs, hcs] at hlt
      have HST := Lib.hid hstep
      clear hstep hbc hcl hline hrest hl1 hr1 hmm hE1 HN
      go_wp2_with (go_at_call 23; refine hcut.mono ?_)
      rintro e W1 ⟨rfl, n1, hW1⟩
      have hb1 : Below A w W1 := by rw [hW1]; exact below_drew HB.out n1
      have hl1 : Bl W1 A l := by rw [hW1]; exact HL.out.keep (fun k _ => rfl)
      have ho1 : W1.ownsRow A 45 2 u6 S.length (flatS S) := by rw [hW1]; exact HO.out
      have hi1 : InsAt W1 A S := by rw [hW1]; exact HI.out.keep (fun k _ => rfl)
      have HI1 := Lib.hid hi1
      have HB1 := Lib.hid hb1
      have HL1 := Lib.hid hl1
      have HO1 := Lib.hid ho1
      clear hb1 hl1 ho1 hi1 hW1 hcut
      go_wp2_with (go_at_call 24; refine (source_all line (by omega) W1).mono ?_)
      rintro e W2 ⟨p, rfl, hpv, hp, hb2⟩
      have HPV := Lib.hid hpv
      have HI2 := Lib.hid (HI1.out.keep (w' := W2) (fun k hk => hb2.block k hk))
      have hA1 := HL1.out.lt
      have HB2 := Lib.hid (HB1.out.trans (hb2.mono (Nat.le_of_lt hA1)))
      have HL2 := Lib.hid (HL1.out.keep (w' := W2) (fun k hk => hb2.block k hk))
      have HO2 := Lib.hid (own_keep (w' := W2) HO1.out (fun k hk _ _ => hb2.block k hk))
      clear hb2 hpv
      have hnw : IntKind.i64.wrap ((n : Int) + 1) = (n : Int) + 1 := IntWalk.i64_in _ (by omega)
      cases hso : srcOk line.data.toList with
      | true =>
        have hst := HST.out
        rw [hso, if_pos rfl, ← HPV.out hso] at hst
        have HST2 := Lib.hid hst
        clear hst hso
        go_wp2_with (go_at_call 25; refine (write_bl3 A l p W2 HL2.out (by omega)).mono ?_)
        rintro e W3 ⟨rfl, hl3, hst3, hb3⟩
        have ho3 := own_stays HO2.out hst3 (by decide) (by decide)
        have HI3 := Lib.hid (HI2.out.stays hst3)
        clear hst3
        have HB3 := Lib.hid (HB2.out.trans hb3)
        have HL3 := Lib.hid hl3
        have HO3 := Lib.hid ho3
        clear hb3 hl3 ho3
        go_wp2_with fail
        have hps : p.data.toList.length = p.size := rfl
        refine ⟨⟨rest, n + 1, f', S, l ++ p.data.toList, rfl, by go_num, by omega, HST2.out, by omega, HO3.out, HI3.out, by omega, HL3.out, by rw [List.length_append, hps]; omega, HB3.out⟩, ?_⟩
        simp [lenOf]
        omega
      | false =>
        go_wp2_with (go_at_call 26; refine (scan_all line (by omega) W2 (HE.out.keep HB2.out h9)).mono ?_)
        rintro e W3 ⟨ao, vn, vc, t, ns, rfl, hsv, hb3⟩
        have HSV := Lib.hid hsv
        have HI3 := Lib.hid (HI2.out.keep (w' := W3) (fun k hk => hb3.block k hk))
        have hA2 := HL2.out.lt
        have HB3 := Lib.hid (HB2.out.trans (hb3.mono (Nat.le_of_lt hA2)))
        have HL3 := Lib.hid (HL2.out.keep (w' := W3) (fun k hk => hb3.block k hk))
        have HO3 := Lib.hid (own_keep (w' := W3) HO2.out (fun k hk _ _ => hb3.block k hk))
        have hA3 := HL3.out.lt
        clear hb3 hsv
        have hst := HST.out
        rw [hso, if_neg (by decide)] at hst
        clear hso
        cases hsc : scanOk line with
        | true =>
          obtain ⟨hv3, ho3⟩ := HSV.out hsc
          rw [show (⟨line.data.toList.toArray⟩ : ByteArray) = line from rfl, hsc, if_pos rfl, hv3] at hst
          have HST2 := Lib.hid hst
          have HOx := Lib.hid (own_mono ho3 (Nat.le_of_lt hA2))
          clear hst hsc hv3 ho3
          go_wp2_with (at_builtin; refine wpList_append_own _ rfl (.tmp 44) (.tmp 46) 22 rfl A 45 i37 (.agg #[.slice none 0 0, .int .i64 0]) 2 32 Tryz.underlying22 hi hz0 hz1 hz2 rfl (by decide) u6 S.length _ rfl ((HO3.out.alloc _).alloc _) ⟨W3.heap.size + 1, 0, none⟩ 1 1 [.slice ao vn vc, .int .i64 t] rfl rfl ?c1 ?c2 ?c3 ?c4 ?c5 ?_)
          case c1 =>
            have h := heap_alloc_new (W3.alloc (.cells #[.slice ao vn vc, .int .i64 t] 45)) (.cells #[.slice ao vn vc, .int .i64 t] 45)
            simp only [size_alloc1] at h
            intro j u hj
            match j, hj with
            | 0, hj => simp at hj; subst hj; show World.cell? _ ⟨W3.heap.size + 1, 0, none⟩ = _; rw [Lib.cell_of_heap h]; rfl
            | 1, hj => simp at hj; subst hj; show World.cell? _ ⟨W3.heap.size + 1, 1, none⟩ = _; rw [Lib.cell_of_heap h]; rfl
          case c2 => intro u hu; simp at hu; rcases hu with rfl | rfl <;> rfl
          case c3 => unfold maxLen; omega
          case c4 => omega
          case c5 => simp; omega
          intro v2 W4 hog hgrow _
          have hk4 : ∀ k, k < W3.heap.size → u6.ownBlock ≠ some k → W4.heap[k]? = W3.heap[k]? := fun k hk hu => by
            rw [hgrow.block k (by simp; omega) (fun e => hu e.symm), Lib.alloc_old _ _ k (by simp; omega), Lib.alloc_old _ _ k hk]
          have HL4 := Lib.hid (HL3.out.grow HO3.out hk4)
          have HB4 := Lib.hid (((HB3.out.alloc (Nat.le_of_lt hA3) (.cells #[.slice ao vn vc, .int .i64 t] 45)).alloc (by simp; omega) (.cells #[.slice ao vn vc, .int .i64 t] 45)).grown hgrow (by simp; omega) (fun k hk => own_base HO3.out k hk))
          have hi4 : InsAt W4 A (S ++ [⟨ao, vn, vc, ns, t⟩]) := by
            refine InsAt.snoc (HI3.out.keepTo (fun k hk hne => hk4 k hk hne) HO3.out) ?_
            exact own_keep HOx.out (fun k hk _ hv => hk4 k hk (own_diff HOx.out HO3.out (by decide) hv))
          have HI4 := Lib.hid hi4
          have HO4 := Lib.hid hog
          clear hog hgrow hk4 hi4
          go_wp2_with fail
          refine ⟨⟨rest, n + 1, f', S ++ [⟨ao, vn, vc, ns, t⟩], l, rfl, by go_num, by omega, by rw [List.map_append]; exact HST2.out, by omega, by rw [flatS_snoc, List.length_append]; exact HO4.out, HI4.out, by rw [List.length_append]; simp; omega, HL4.out, by omega, HB4.out⟩, ?_⟩
          simp [lenOf]
          omega
        | false =>
          rw [show (⟨line.data.toList.toArray⟩ : ByteArray) = line from rfl, hsc, if_neg (by decide)] at hst
          have HST2 := Lib.hid hst
          clear hst hsc
          go_wp2_with (go_at_call 18; refine (new_any 23 (n : Int) _).mono ?_)
          rintro e W4 ⟨rfl, hW4⟩
          have hx4 : W4.heap[W3.heap.size + 1]? = some (.cells #[.int .i64 23, .int .i64 (n : Int), .nilIface] 72 (0, 0)) := by
            rw [hW4]
            have := heap_alloc_new (W3.alloc (.cells #[.slice ao vn vc, .int .i64 t] 45)) (.cells #[.int .i64 23, .int .i64 (n : Int), .nilIface] 72)
            rw [size_alloc1] at this
            exact this
          have hb4 : Below A w W4 := by rw [hW4]; exact (HB3.out.alloc (Nat.le_of_lt hA3) _).alloc (by simp; omega) _
          have HX4 := Lib.hid hx4
          have HB4 := Lib.hid hb4
          clear hx4 hb4 hW4
          go_wp2_with fail
          go_ret3
          exact ⟨.inl ⟨n, W3.heap.size + 1, HST2.out.symm, by rfl, HX4.out⟩, by rw [hA]; exact HB4.out⟩
end Go.Proofs.YtjbagjmjbfiddaaGreatDoor
