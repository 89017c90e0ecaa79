/-
  The document's Read.
-/
import Derived.Test.YtjbagjmjbfiddaaGreatDoorRnum
namespace Go.Proofs.YtjbagjmjbfiddaaGreatDoor
open Go.ChangeShapes Go.WideShapes Go.ChangeAt Go.RowKit Go.Sort

theorem readW_src {x : List UInt8} (h : srcOk x = true) (r : List (List UInt8)) (n : Nat) (l : List UInt8) (T : List (Int × List Int)) : readW (x :: r) n l T = readW r (n + 1) (l ++ srcVal x) T := by
  show (if srcOk x then _ else _) = _
  rw [if_pos h]
theorem readW_scan {x : List UInt8} (h : srcOk x = false) (h2 : scanOk ⟨x.toArray⟩ = true) (r : List (List UInt8)) (n : Nat) (l : List UInt8) (T : List (Int × List Int)) : readW (x :: r) n l T = readW r (n + 1) l (T ++ [scanVal ⟨x.toArray⟩]) := by
  show (if srcOk x then _ else _) = _
  rw [if_neg (by rw [h]; decide), if_pos h2]
theorem readW_bad {x : List UInt8} (h : srcOk x = false) (h2 : scanOk ⟨x.toArray⟩ = false) (r : List (List UInt8)) (n : Nat) (l : List UInt8) (T : List (Int × List Int)) : readW (x :: r) n l T = .inl n := by
  show (if srcOk x then _ else _) = _
  rw [if_neg (by rw [h]; decide), if_neg (by rw [h2]; decide)]
theorem src_words {x : List UInt8} {w0 : List UInt8} {rr : List (List UInt8)} (hs : splitL 32 x = w0 :: rr) : srcOk x = srcOkL (w0 :: rr) ∧ scanOk ⟨x.toArray⟩ = scanOkL (w0 :: rr) := by
  refine ⟨by rw [srcOk_eq, hs], ?_⟩
  rw [scanOk_eq]
  show scanOkL (splitL 32 x) = _
  rw [hs]
theorem srcOkL_long {w0 : List UInt8} {rr : List (List UInt8)} (h : rr.length ≠ 1) : srcOkL (w0 :: rr) = false := by
  cases rr with
  | nil => rfl
  | cons a r => cases r with
    | nil => simp at h
    | cons b q => rfl
theorem srcOkL_other {w0 : List UInt8} {rr : List (List UInt8)} (h : w0 ≠ [115, 114, 99]) : srcOkL (w0 :: rr) = false := by
  cases rr with
  | nil => rfl
  | cons a r => cases r with
    | nil =>
      have : (w0 == [115, 114, 99]) = false := by simpa using h
      show (w0 == [115, 114, 99] && (readOf ⟨a.toArray⟩).2) = false
      rw [this]
      rfl
    | cons b q => rfl
theorem scanOkL_other {w0 : List UInt8} {rr : List (List UInt8)} (h : w0 ≠ [115, 99, 97, 110]) : scanOkL (w0 :: rr) = false := by
  have : (w0 == [115, 99, 97, 110]) = false := by simpa using h
  show (w0 == [115, 99, 97, 110] && decide (1 ≤ rr.length) && decide (rr.length ≤ 17) && rr.all fun x => (numL x).isSome) = false
  rw [this]
  rfl
theorem scanOkL_len {w0 : List UInt8} {rr : List (List UInt8)} (h : rr.length < 1 ∨ 17 < rr.length) : scanOkL (w0 :: rr) = false := by
  rw [← Bool.not_eq_true]
  unfold scanOkL
  simp only [Bool.and_eq_true, decide_eq_true_eq]
  omega
theorem scanOkL_all {rr : List (List UInt8)} (h1 : 1 ≤ rr.length) (h2 : rr.length ≤ 17) : scanOkL ([115, 99, 97, 110] :: rr) = rr.all fun x => (numL x).isSome := by
  show (([115, 99, 97, 110] : List UInt8) == [115, 99, 97, 110] && decide (1 ≤ rr.length) && decide (rr.length ≤ 17) && rr.all fun x => (numL x).isSome) = _
  rw [decide_eq_true h1, decide_eq_true h2]
  rfl

theorem splitL_len {c : UInt8} : ∀ {l : List UInt8} {x : List UInt8}, x ∈ splitL c l → x.length ≤ l.length
  | [], x, h => by simp [splitL] at h; subst h; exact Nat.le_refl _
  | y :: r, x, h => by
    unfold splitL at h
    split at h
    · rcases List.mem_cons.1 h with h | h
      · subst h; exact Nat.zero_le _
      · have := splitL_len h; simp; omega
    · rcases List.mem_cons.1 h with h | h
      · subst h
        have hne := splitL_ne c r
        cases hs : splitL c r with
        | nil => exact absurd hs hne
        | cons a b =>
          have : a ∈ splitL c r := by rw [hs]; simp
          have := splitL_len this
          simp
          omega
      · have := splitL_len (List.mem_of_mem_tail h); simp; omega
theorem strs_cell {w : World} {B g c n : Nat} {ws : List (List UInt8)} (h : w.ownsRow B 9 1 (.slice (some ⟨g, 0, none⟩) n c) n (ws.map mkS)) {j : Nat} {p : List UInt8} (hp : ws[j]? = some p) : w.cell? ⟨g, j, none⟩ = some (mkS p) := by
  have hl : ws.length = n := by simpa using h.1
  have hj : j < ws.length := (List.getElem?_eq_some_iff.1 hp).1
  rcases h.2 with ⟨h1, _⟩ | ⟨g', cap, cur, hv, hb, hg, hc, _, _, ht⟩
  · cases h1
  · simp at hv
    obtain ⟨rfl, rfl⟩ := hv
    have h3 : (ws.map mkS)[j]? = some (mkS p) := by rw [List.getElem?_map, hp]; rfl
    rw [← ht, List.getElem?_take_of_lt (by omega)] at h3
    rw [Lib.cell_of_heap hg]
    simpa using h3

set_option maxHeartbeats 4000000 in
set_option maxRecDepth 100000 in
theorem rread_any (a : Option Addr) (c : Nat) (L : List (List UInt8)) (hL : L.length ≤ 70000) (hp : ∀ p ∈ L, p.length ≤ 70000) (w : World) (h : Strs w a L) :
    Calls Tryz.prog 28 #[.slice a L.length c] w fun e w' =>
    ((∃ n, readW L 1 [] [] = .inl n ∧ 0 < n ∧ e = .returned (.tuple #[.string ⟨#[]⟩, .slice none 0 0, .int .i64 (n : Nat)]))
      ∨ (∃ l S ao cp, readW L 1 [] [] = .inr (l, S.map val) ∧ e = .returned (.tuple #[.string ⟨l.toArray⟩, .slice ao S.length cp, .int .i64 0]) ∧ Scans w' ao S ∧ S.length ≤ L.length)) ∧ Below w.heap.size w w' := by
  obtain ⟨i5, hi5, hz50, hz51, hz52⟩ := info_parts infoB
  obtain ⟨i37, hi, hz0, hz1, hz2⟩ := info_parts info37
  obtain ⟨i00, hj3, hy0, hy1, hy2⟩ := info_parts info3
  have HS := Lib.hid h
  have HP := Lib.hid hp
  obtain ⟨len, hlen⟩ : ∃ len, L.length = len := ⟨_, rfl⟩
  rw [hlen] at hL ⊢
  generalize hR : readW L 1 [] [] = Res
  have HR := Lib.hid hR
  generalize hA : w.heap.size = A
  clear h hp hR
  go_enter Tryz.func28, Tryz.ntmps28
  go_wp2_with fail
  go_loopw [5, 6, 7] (fun v5 v6 i wr => ∃ (j : Nat) (l : List UInt8) (S : List ScA), j ≤ len ∧ i = .int .i64 (j : Nat) ∧ readW (L.drop j) (j + 1) l (S.map val) = Res ∧ wr.ownsRow A 5 1 v5 l.length (Lib.byteCells l) ∧ wr.ownsRow A 45 2 v6 S.length (flatS S) ∧ InsAt wr A S ∧ S.length ≤ j ∧ l.length ≤ 70000 * j ∧ Below A w wr) (fun _ _ i _ => len - (intOf i).toNat)
  case atStart => exact ⟨0, [], [], Nat.zero_le _, rfl, HR.out, World.ownsRow_nil _ _ _ _, World.ownsRow_nil _ _ _ _, fun x hx => (by cases hx), Nat.le_refl _, Nat.le_refl _, by rw [← hA]; exact Below.refl _ _⟩
  case round =>
    obtain ⟨j, l, S, hj, rfl, hres, ho5, ho6, hins, hSj, hlj, hb⟩ := hrel
    have HO5 := Lib.hid ho5
    have HO6 := Lib.hid ho6
    have HI := Lib.hid hins
    have HB := Lib.hid hb
    have HRES := Lib.hid hres
    have hzz : A ≤ wr.heap.size := by rw [← hA]; exact hb.size
    clear ho5 ho6 hins hb hres
    by_cases hjl : j < len
    · have hjL : j < L.length := by omega
      obtain ⟨p, hp⟩ : ∃ p, L[j]? = some p := ⟨_, List.getElem?_eq_getElem hjL⟩
      have hpl := HP.out p (List.mem_of_getElem? hp)
      have hdrop : L.drop j = p :: L.drop (j + 1) := by
        rw [List.drop_eq_getElem_cons hjL]
        rw [List.getElem?_eq_getElem hjL] at hp
        rw [Option.some.inj hp]
      obtain ⟨ab, rfl, hc0⟩ := (HS.out.keep (by rw [hA]; exact HB.out)) j p hp
      obtain ⟨ps, hps⟩ : ∃ ps : ByteArray, (⟨p.toArray⟩ : ByteArray) = ps := ⟨_, rfl⟩
      have hpp : p = ps.data.toList := by rw [← hps]
      have hpsz : ps.size = p.length := by rw [← hps, mk_size]
      unfold mkS at hc0
      rw [hps] at hc0
      have hsp := split_any ps 32 (by omega) wr.heap.size wr (Nat.le_refl _)
      rw [← hpp] at hsp
      have hne := splitL_ne 32 p
      obtain ⟨R, hRR⟩ : ∃ R, splitL 32 p = R := ⟨_, rfl⟩
      rw [hRR] at hsp hne
      have hres := HRES.out
      rw [hdrop] at hres
      have HRES2 := Lib.hid hres
      have HRR := Lib.hid hRR
      have i0 : (j : Int) < (len : Int) := by omega
      have i1 : (0 : Int) ≤ (j : Int) := by omega
      clear hp hdrop hres hRR hps
      go_wp2_with (go_at_call 42; refine hsp.mono ?_)
      clear hsp
      rintro e W1 ⟨v8, rfl, hown8, hsz8, hb1⟩
      obtain ⟨g, c8, rfl, hc8, hg8, hat⟩ := strs_of hown8 hne
      obtain ⟨w0, rr, rfl⟩ : ∃ w0 rr, R = w0 :: rr := by
        cases R with
        | nil => exact absurd rfl hne
        | cons a b => exact ⟨a, b, rfl⟩
      have hsrcs := src_words HRR.out
      have HSRC := Lib.hid hsrcs
      obtain ⟨q, hq⟩ : ∃ q, rr.length = q := ⟨_, rfl⟩
      rw [List.length_cons, hq] at hc8 hsz8 hown8 ⊢
      have HO81 := Lib.hid hown8
      obtain ⟨s0, hs0⟩ : ∃ s0 : ByteArray, (⟨w0.toArray⟩ : ByteArray) = s0 := ⟨_, rfl⟩
      have hw0 : w0 = s0.data.toList := by rw [← hs0]
      have HS0 := Lib.hid hs0
      have hcell0 := hat 0 w0 rfl
      unfold mkS at hcell0
      rw [hs0] at hcell0
      have HAT := Lib.hid hat
      have hg1 : g < W1.heap.size := World.block_lt_of_cell? _ _ hcell0
      have HO51 := Lib.hid (own_keep (w' := W1) HO5.out (fun k hk _ _ => hb1.block k hk))
      have HO61 := Lib.hid (own_keep (w' := W1) HO6.out (fun k hk _ _ => hb1.block k hk))
      have HI1 := Lib.hid (HI.out.keep (w' := W1) (fun k hk => hb1.block k hk))
      have HB1 := Lib.hid (HB.out.trans (hb1.mono hzz))
      have hz1' := hb1.size
      clear hown8 hne hsrcs hat hb1 hs0 HO5 HO6 HI
      by_cases hsrc : w0 = [115, 114, 99]
      · have b0 : (s0.toList == [115, 114, 99]) = true := by rw [ByteArray.toList_eq, ← hw0, hsrc]; rfl
        have b1 : (s0.toList == [115, 99, 97, 110]) = false := by rw [ByteArray.toList_eq, ← hw0, hsrc]; rfl
        have hnsc : scanOk ⟨p.toArray⟩ = false := by rw [HSRC.out.2]; exact scanOkL_other (by rw [hsrc]; decide)
        by_cases hq1 : q = 1
        · have b2 : ((q : Int) + 1 == 2) = true := by rw [hq1]; rfl
          obtain ⟨x, rfl⟩ : ∃ x, rr = [x] := by
            cases rr with
            | nil => simp at hq; omega
            | cons x r => cases r with
              | nil => exact ⟨x, rfl⟩
              | cons y z => simp at hq; omega
          obtain ⟨xs, hxs⟩ : ∃ xs : ByteArray, (⟨x.toArray⟩ : ByteArray) = xs := ⟨_, rfl⟩
          have hcell1 := HAT.out 1 x rfl
          unfold mkS at hcell1
          rw [hxs] at hcell1
          have hso : srcOk p = (readOf xs).2 := by rw [HSRC.out.1, hsrc, ← hxs]; rfl
          have hsv : srcOk p = true → srcVal p = (readOf xs).1.data.toList := fun h => by rw [← hxs]; exact srcVal_eq h HRR.out
          have hxl : x.length ≤ 70000 := Nat.le_trans (splitL_len (c := 32) (l := p) (by rw [HRR.out]; simp)) hpl
          have hxz : xs.size ≤ 70000 := by rw [← hxs, mk_size]; exact hxl
          have hrz := readOf_size xs
          have hrb := rbytes_any xs (by omega) W1.heap.size W1 (Nat.le_refl _)
          obtain ⟨⟨rb, ro⟩, hro⟩ : ∃ R, readOf xs = R := ⟨_, rfl⟩
          rw [hro] at hso hsv hrz hrb
          simp only at hso hsv hrz hrb
          have HSO := Lib.hid hso
          have HSV := Lib.hid hsv
          have HNS := Lib.hid hnsc
          have j0 : (1 : Int) < (q : Int) + 1 := by omega
          clear hsrc hxs hso hsv hro hnsc hw0 hxl
          go_wp2_with (go_at_call 43; refine hrb.mono ?_)
          clear hrb
          first | rintro e W2 rfl hb2 | rintro e W2 ⟨rfl, hb2⟩
          have HB2 := Lib.hid (HB1.out.trans (hb2.mono (by omega)))
          have hz2' := HB2.out.size
          have HO52 := Lib.hid (own_keep (w' := W2) HO51.out (fun k hk _ _ => hb2.block k hk))
          have HO62 := Lib.hid (own_keep (w' := W2) HO61.out (fun k hk _ _ => hb2.block k hk))
          have HI2 := Lib.hid (HI1.out.keep (w' := W2) (fun k hk => hb2.block k hk))
          have HO82 := Lib.hid (own_keep (w' := W2) HO81.out (fun k hk _ _ => hb2.block k hk))
          clear hb2 HO51 HO61 HI1 HO81 hcell0 hcell1
          go_wp2_with (at_builtin; refine Lib.wpList_append_own_string _ rfl _ _ 49 9 rfl A 5 i5 Tryz.underlying49 Tryz.underlying9 hi5 hz50 hz51 hz52 _ _ _ rfl HO52.out rb rfl ?c3 ?c4 ?c5 ?_)
          case c3 => unfold maxLen; omega
          case c4 => omega
          case c5 => omega
          intro v5 W3 hown5 hgrow _
          have hk3 : ∀ k, k < W2.heap.size → u5.ownBlock ≠ some k → W3.heap[k]? = W2.heap[k]? := fun k hk hu => hgrow.block k hk (fun e => hu e.symm)
          have HB3 := Lib.hid (HB2.out.grown hgrow (by omega) (fun k hk => own_base HO52.out k hk))
          have HO63 := Lib.hid (own_keep (w' := W3) HO62.out (fun k hk _ hv => hk3 k hk (own_diff HO62.out HO52.out (by decide) hv)))
          have HI3 := Lib.hid (show InsAt W3 A S from fun x hx => own_keep (HI2.out x hx) (fun k hk _ hv => hk3 k hk (own_diff (HI2.out x hx) HO52.out (by decide) hv)))
          have hcell0 := strs_cell (own_keep (w' := W3) HO82.out (fun k hk _ hv => hk3 k hk (own_diff HO82.out HO52.out (by decide) hv))) (j := 0) rfl
          unfold mkS at hcell0
          rw [HS0.out] at hcell0
          have hown5' : W3.ownsRow A 5 1 v5 (l ++ rb.data.toList).length (Lib.byteCells (l ++ rb.data.toList)) := by
            rw [Lib.byteCells_append, List.length_append]
            exact hown5
          have HO53 := Lib.hid hown5'
          clear hown5 hown5' hgrow hk3
          cases ro with
          | true =>
            have hst := HRES2.out
            rw [readW_src HSO.out, HSV.out HSO.out] at hst
            have HST := Lib.hid hst
            clear hst
            go_wp2_with fail
            have hrl : rb.data.toList.length = rb.size := rfl
            exact ⟨⟨j + 1, l ++ rb.data.toList, S, by omega, by go_num, HST.out, HO53.out, HO63.out, HI3.out, by omega, by rw [List.length_append, hrl]; omega, HB3.out⟩, by simp [intOf]; omega⟩
          | false =>
            have hst := HRES2.out
            rw [readW_bad HSO.out HNS.out] at hst
            have HST := Lib.hid hst
            clear hst
            go_wp2_with fail
            go_ret3
            exact ⟨.inl ⟨j + 1, HST.out.symm, by omega, by rfl⟩, HB3.out⟩
        · have b2 : ((q : Int) + 1 == 2) = false := by simp; omega
          have hst := HRES2.out
          rw [readW_bad (by rw [HSRC.out.1]; exact srcOkL_long (by omega)) hnsc] at hst
          have HST := Lib.hid hst
          clear hst hnsc hsrc hw0
          go_wp2_with fail
          go_ret3
          exact ⟨.inl ⟨j + 1, HST.out.symm, by omega, by rfl⟩, HB1.out⟩
      · have b0 : (s0.toList == [115, 114, 99]) = false := by rw [ByteArray.toList_eq, ← hw0]; simpa using hsrc
        have hnsr : srcOk p = false := by rw [HSRC.out.1]; exact srcOkL_other hsrc
        by_cases hscan : w0 = [115, 99, 97, 110]
        · have b1 : (s0.toList == [115, 99, 97, 110]) = true := by rw [ByteArray.toList_eq, ← hw0, hscan]; rfl
          by_cases hq1 : q < 1
          · have b2 : decide ((2 : Int) ≤ (q : Int) + 1) = false := decide_eq_false (by omega)
            have hst := HRES2.out
            rw [readW_bad hnsr (by rw [HSRC.out.2]; exact scanOkL_len (by omega))] at hst
            have HST := Lib.hid hst
            clear hst hnsr hsrc hscan hw0
            go_wp2_with fail
            go_ret3
            exact ⟨.inl ⟨j + 1, HST.out.symm, by omega, by rfl⟩, HB1.out⟩
          · have b2 : decide ((2 : Int) ≤ (q : Int) + 1) = true := decide_eq_true (by omega)
            by_cases hq17 : 17 < q
            · have b3 : decide ((q : Int) + 1 ≤ 18) = false := decide_eq_false (by omega)
              have hst := HRES2.out
              rw [readW_bad hnsr (by rw [HSRC.out.2]; exact scanOkL_len (by omega))] at hst
              have HST := Lib.hid hst
              clear hst hnsr hsrc hscan hw0
              go_wp2_with fail
              go_ret3
              exact ⟨.inl ⟨j + 1, HST.out.symm, by omega, by rfl⟩, HB1.out⟩
            · have b3 : decide ((q : Int) + 1 ≤ 18) = true := decide_eq_true (by omega)
              have hsok : scanOk ⟨p.toArray⟩ = rr.all fun x => (numL x).isSome := by rw [HSRC.out.2, hscan]; exact scanOkL_all (by omega) (by omega)
              have hsval : scanVal ⟨p.toArray⟩ = ((rr.map fun x => (numL x).getD 0).headD 0, (rr.map fun x => (numL x).getD 0).tail) := by
                rw [scanVal_eq]
                show scanValL (splitL 32 p) = _
                rw [HRR.out]
                rfl
              have HSOK := Lib.hid hsok
              have HSVAL := Lib.hid hsval
              have HNSR := Lib.hid hnsr
              clear hsok hsval hnsr hsrc hscan hw0
              go_wp2_with fail
              have hbx := heap_alloc_new W1 (.cells #[.slice none 0 0, .int .i64 0] 45)
              have hbP := (Below.refl W1.heap.size W1).alloc (Nat.le_refl _) (.cells #[.slice none 0 0, .int .i64 0] 45)
              have hsP := size_alloc1 W1 (.cells #[.slice none 0 0, .int .i64 0] 45)
              generalize W1.alloc (.cells #[.slice none 0 0, .int .i64 0] 45) = Wp at *
              clear hcell0 b0 b1 b2 b3
              obtain ⟨P, hPP⟩ : ∃ P, W1.heap.size = P := ⟨_, rfl⟩
              rw [hPP] at hbx hbP hsP hg1 hz1' ⊢
              have HPP := Lib.hid hPP
              clear hPP
              go_loopw [9, 13] (fun okv kv wi => ∃ (m : Nat) (v : Value) (ns : List Int) (t : Int), m ≤ q ∧ kv = .int .i64 ((m : Int) + 1) ∧ okv = .bool ((rr.take m).all fun x => (numL x).isSome) ∧ ((m = 0 ∧ ns = []) ∨ (0 < m ∧ (rr.take m).map (fun x => (numL x).getD 0) = t :: ns)) ∧ wi.heap[P]? = some (.cells #[v, .int .i64 t] 45 (0, 0)) ∧ wi.ownsRow (P + 1) 3 1 v ns.length (ns.map (Value.int .i64)) ∧ ns.length ≤ m ∧ Below P W1 wi ∧ P + 1 ≤ wi.heap.size) (fun _ kv _ => q + 1 - (intOf kv).toNat)
              case atStart => exact ⟨0, .slice none 0 0, [], 0, Nat.zero_le _, rfl, rfl, .inl ⟨rfl, rfl⟩, hbx, World.ownsRow_nil _ _ _ _, Nat.le_refl _, hbP, by omega⟩
              case round =>
                clear hbx hbP hsP
                obtain ⟨m, v, ns, t, hm, rfl, rfl, hmt, hbx, hown, hnm, hbP, hsP⟩ := hrel
                have HMT := Lib.hid hmt
                have HOI := Lib.hid hown
                have HBP := Lib.hid hbP
                have HBX := Lib.hid hbx
                have c0 : wr.cell? ⟨P, 0, none⟩ = some v := by rw [Lib.cell_of_heap hbx]; rfl
                have c1 : wr.cell? ⟨P, 1, none⟩ = some (.int .i64 t) := by rw [Lib.cell_of_heap hbx]; rfl
                have f0 := Lib.frozen_of_heap hbx 0
                have f1 := Lib.frozen_of_heap hbx 1
                obtain ⟨ob, hob⟩ : ∃ ob, ((rr.take m).all fun x => (numL x).isSome) = ob := ⟨_, rfl⟩
                rw [hob]
                have HOB := Lib.hid hob
                clear hmt hown hbP hbx hob
                by_cases hmq : m < q
                · obtain ⟨x, hx⟩ : ∃ x, rr[m]? = some x := ⟨_, List.getElem?_eq_getElem (by omega)⟩
                  obtain ⟨xs, hxs⟩ : ∃ xs : ByteArray, (⟨x.toArray⟩ : ByteArray) = xs := ⟨_, rfl⟩
                  have hcx := HAT.out (m + 1) x (by rw [List.getElem?_cons_succ]; exact hx)
                  unfold mkS at hcx
                  rw [hxs] at hcx
                  have hcx2 := (HBP.out.cell (p := ⟨g, m + 1, none⟩) hg1).trans hcx
                  have hmr : m < rr.length := by omega
                  have hxm : rr[m]'hmr = x := by
                    rw [List.getElem?_eq_getElem hmr] at hx
                    exact Option.some.inj hx
                  have htk : rr.take (m + 1) = rr.take m ++ [x] := by rw [List.take_succ_eq_append_getElem hmr, hxm]
                  have hnx : numL x = numOf xs := by rw [← hxs]; rfl
                  have hrn := rnumber_any xs wr
                  obtain ⟨o, ho⟩ : ∃ o, numOf xs = o := ⟨_, rfl⟩
                  rw [ho] at hrn hnx
                  have hall2 : ((rr.take (m + 1)).all fun x => (numL x).isSome) = (ob && o.isSome) := by rw [htk, List.all_append, HOB.out]; simp [hnx]
                  have hmap2 : (rr.take (m + 1)).map (fun x => (numL x).getD 0) = (rr.take m).map (fun x => (numL x).getD 0) ++ [o.getD 0] := by rw [htk, List.map_append]; simp [hnx]
                  have HALL := Lib.hid hall2
                  have HMAP := Lib.hid hmap2
                  obtain ⟨nn, hnn⟩ : ∃ nn, o.getD 0 = nn := ⟨_, rfl⟩
                  obtain ⟨fb, hfb⟩ : ∃ fb, o.isSome = fb := ⟨_, rfl⟩
                  rw [hnn, hfb] at hrn
                  have HNN := Lib.hid hnn
                  have HFB := Lib.hid hfb
                  have i2 : (m : Int) + 1 < (q : Int) + 1 := by omega
                  have i3 : (0 : Int) ≤ (m : Int) + 1 := by omega
                  have i4 : ((m : Int) + 1).toNat = m + 1 := by omega
                  have i5 : IntKind.i64.wrap ((m : Int) + 1 + 1) = (m : Int) + 1 + 1 := IntWalk.i64_in _ (by omega)
                  clear hx hxs hcx hxm htk hnx ho hall2 hmap2 hnn hfb
                  by_cases hm0 : m = 0
                  · have hns : ns = [] := HMT.out.elim (fun h => h.2) (fun h => absurd h.1 (by omega))
                    subst hns
                    subst hm0
                    have hcx3 : wr.cell? ⟨g, 1, none⟩ = some (.string xs) := hcx2
                    have j2 : (1 : Int) < (q : Int) + 1 := by omega
                    clear hcx2 i2 i3 i4 i5
                    have hT := cells_set1 (v := .int .i64 nn) HBX.out
                    have hB := HBP.out.setCell (p := ⟨P, 1, none⟩) (Nat.le_refl _) (.int .i64 nn)
                    have hO := own_keep (w' := wr.setCell ⟨P, 1, none⟩ (.int .i64 nn)) HOI.out (fun k _ hk _ => setCell_other _ _ _ _ _ (by omega))
                    have hsz : P + 1 ≤ (wr.setCell ⟨P, 1, none⟩ (.int .i64 nn)).heap.size := by simpa [World.setCell] using hsP
                    have HT := Lib.hid hT
                    have HB' := Lib.hid hB
                    have HO' := Lib.hid hO
                    have HSZ := Lib.hid hsz
                    clear hT hB hO hsz
                    have hrel2 : (rr.take (0 + 1)).map (fun x => (numL x).getD 0) = nn :: [] := by rw [HMAP.out, HNN.out]; rfl
                    have HREL := Lib.hid hrel2
                    clear hrel2
                    cases ob with
                    | true =>
                      go_wp2_with (go_at_call 44; refine hrn.mono ?_; rintro e wr ⟨rfl, rfl⟩)
                      exact ⟨⟨0 + 1, v, [], nn, by omega, by rfl, by rw [HALL.out, HFB.out]; rfl, (.inr ⟨by omega, HREL.out⟩), HT.out, HO'.out, by simp, HB'.out, HSZ.out⟩, by simp [intOf]; omega⟩
                    | false =>
                      go_wp2_with (go_at_call 44; refine hrn.mono ?_; rintro e wr ⟨rfl, rfl⟩)
                      exact ⟨⟨0 + 1, v, [], nn, by omega, by rfl, by rw [HALL.out]; rfl, (.inr ⟨by omega, HREL.out⟩), HT.out, HO'.out, by simp, HB'.out, HSZ.out⟩, by simp [intOf]; omega⟩
                  · have b5 : ((m : Int) + 1 == 1) = false := by simp; omega
                    have hmt2 : (rr.take (m + 1)).map (fun x => (numL x).getD 0) = t :: (ns ++ [nn]) := by
                      have h := HMT.out.elim (fun h => absurd h.1 hm0) (fun h => h.2)
                      rw [HMAP.out, h, HNN.out]
                      rfl
                    have HMT2 := Lib.hid hmt2
                    have HB5 := Lib.hid b5
                    clear hmt2
                    cases ob
                    all_goals
                      go_wp2_with (first | (go_at_call 44; refine hrn.mono ?_; rintro e wr ⟨rfl, rfl⟩) | (at_builtin; refine wpList_append_own _ rfl (.tmp 85) (.tmp 87) 43 rfl (P + 1) 3 i00 (.int .i64 0) 1 8 Tryz.underlying43 hj3 hy0 hy1 hy2 rfl (by decide) v ns.length _ rfl (HOI.out.alloc _) ⟨wr.heap.size, 0, none⟩ 1 1 [.int .i64 nn] rfl rfl ?c1 ?c2 ?c3 ?c4 ?c5 ?_))
                      case c1 =>
                        intro j u hj
                        match j, hj with
                        | 0, hj => simp at hj; subst hj; exact cell_last
                      case c2 => intro u hu; simp at hu; subst hu; rfl
                      case c3 => unfold maxLen; omega
                      case c4 => omega
                      case c5 => simp; omega
                      intro v2 W2 hown2 hgrow2 _
                      have hbg := ((Below.refl (P + 1) wr).alloc hsP (.cells #[.int .i64 nn] 3)).grown hgrow2 (by simp; omega) (fun k hk => own_base HOI.out k hk)
                      have hbx2 := (hbg.block P (by omega)).trans HBX.out
                      obtain ⟨r2, k2, rfl, hr2⟩ := own_form hown2 (by omega)
                      have HBG := Lib.hid hbg
                      have hs2 := hbg.size
                      have HO2 := Lib.hid hown2
                      have c0 : W2.cell? ⟨P, 0, none⟩ = some v := by rw [Lib.cell_of_heap hbx2]; rfl
                      have f0 := Lib.frozen_of_heap hbx2 0
                      have HBX2 := Lib.hid hbx2
                      clear hown2 hgrow2 hbg hbx2
                      go_wp2_with fail
                      have hT := cells_set0 (v := .slice (some ⟨r2, 0, none⟩) (ns.length + 1) k2) HBX2.out
                      have hB := (HBP.out.trans (HBG.out.mono (by omega))).setCell (p := ⟨P, 0, none⟩) (Nat.le_refl _) (.slice (some ⟨r2, 0, none⟩) (ns.length + 1) k2)
                      have hO := own_keep (w' := W2.setCell ⟨P, 0, none⟩ (.slice (some ⟨r2, 0, none⟩) (ns.length + 1) k2)) HO2.out (fun k _ hk _ => setCell_other _ _ _ _ _ (by omega))
                      have hsz2 : P + 1 ≤ W2.heap.size := by omega
                      have HSZ2 := Lib.hid (show P + 1 ≤ (W2.setCell ⟨P, 0, none⟩ (.slice (some ⟨r2, 0, none⟩) (ns.length + 1) k2)).heap.size by simpa [World.setCell] using hsz2)
                      exact ⟨⟨m + 1, _, ns ++ [nn], t, by omega, by go_num, by rw [HALL.out, HFB.out]; rfl, .inr ⟨by omega, HMT2.out⟩, hT, by rw [List.length_append, List.map_append]; exact hO, by rw [List.length_append]; simp; omega, hB, HSZ2.out⟩, by simp [intOf]; omega⟩
                · obtain rfl : m = q := by omega
                  have htk : rr.take m = rr := List.take_of_length_le (by omega)
                  have hob2 := HOB.out
                  have hmap2 := HMT.out.elim (fun h => absurd h.1 (by omega)) (fun h => h.2)
                  rw [htk] at hob2 hmap2
                  obtain ⟨ao, vc, rfl⟩ : ∃ ao vc, v = .slice ao ns.length vc := by
                    rcases HOI.out.2 with ⟨h1, h2⟩ | ⟨g, c, _, hv, _⟩
                    · exact ⟨_, _, by rw [h1, h2]⟩
                    · exact ⟨_, _, hv⟩
                  have hkP : ∀ k, k < W1.heap.size → wr.heap[k]? = W1.heap[k]? := fun k hk => HBP.out.block k (by rw [← HPP.out]; exact hk)
                  have HO52 := Lib.hid (own_keep (w' := wr) HO51.out (fun k hk _ _ => hkP k hk))
                  have HO62 := Lib.hid (own_keep (w' := wr) HO61.out (fun k hk _ _ => hkP k hk))
                  have HI2 := Lib.hid (HI1.out.keep (w' := wr) hkP)
                  have hAP : A ≤ P := by have := HB1.out.size; have := HPP.out; omega
                  have HB2 := Lib.hid (HB1.out.trans (HBP.out.mono hAP))
                  have HOIA := Lib.hid (own_mono HOI.out (by omega : A ≤ P + 1))
                  have HOB2 := Lib.hid hob2
                  have HMAP2 := Lib.hid hmap2
                  have i2 : decide ((m : Int) + 1 < (m : Int) + 1) = false := decide_eq_false (by omega)
                  clear htk hob2 hmap2 hkP
                  cases ob
                  all_goals
                    go_wp2_with (at_builtin; refine wpList_append_own _ rfl (.tmp 90) (.tmp 92) 22 rfl A 45 i37 (.agg #[.slice none 0 0, .int .i64 0]) 2 32 Tryz.underlying22 hi hz0 hz1 hz2 rfl (by decide) u6 S.length _ rfl (HO62.out.alloc _) ⟨wr.heap.size, 0, none⟩ 1 1 [.slice ao ns.length vc, .int .i64 t] rfl rfl ?c1 ?c2 ?c3 ?c4 ?c5 ?_)
                    case c1 =>
                      have h := heap_alloc_new wr (.cells #[.slice ao ns.length vc, .int .i64 t] 45)
                      intro j u hj
                      match j, hj with
                      | 0, hj => simp at hj; subst hj; show World.cell? _ ⟨wr.heap.size, 0, none⟩ = _; rw [Lib.cell_of_heap h]; rfl
                      | 1, hj => simp at hj; subst hj; show World.cell? _ ⟨wr.heap.size, 1, none⟩ = _; rw [Lib.cell_of_heap h]; rfl
                    case c2 => intro u hu; simp at hu; rcases hu with rfl | rfl <;> rfl
                    case c3 => unfold maxLen; omega
                    case c4 => omega
                    case c5 => simp; omega
                    intro v2 W4 hog hgrow _
                    have hk4 : ∀ k, k < wr.heap.size → u6.ownBlock ≠ some k → W4.heap[k]? = wr.heap[k]? := fun k hk hu => by
                      rw [hgrow.block k (by simp; omega) (fun e => hu e.symm), Lib.alloc_old _ _ k hk]
                    have HO54 := Lib.hid (own_keep (w' := W4) HO52.out (fun k hk _ hv => hk4 k hk (own_diff HO52.out HO62.out (by decide) hv)))
                    have HB4 := Lib.hid ((HB2.out.alloc (by omega) (.cells #[.slice ao ns.length vc, .int .i64 t] 45)).grown hgrow (by simp; omega) (fun k hk => own_base HO62.out k hk))
                    have hi4 : InsAt W4 A (S ++ [⟨ao, ns.length, vc, ns, t⟩]) := by
                      refine InsAt.snoc (HI2.out.keepTo (fun k hk hne => hk4 k hk hne) HO62.out) ?_
                      exact own_keep HOIA.out (fun k hk _ hv => hk4 k hk (own_diff HOIA.out HO62.out (by decide) hv))
                    have HI4 := Lib.hid hi4
                    have HO64 := Lib.hid hog
                    clear hog hgrow hk4 hi4
                    have hst := HRES2.out
                    first
                      | (rw [readW_bad HNSR.out (by rw [HSOK.out]; exact HOB2.out)] at hst
                         have HST := Lib.hid hst
                         clear hst
                         go_wp2_with fail
                         go_ret3
                         exact ⟨.inl ⟨j + 1, HST.out.symm, by omega, by rfl⟩, HB4.out⟩)
                      | (rw [readW_scan HNSR.out (by rw [HSOK.out]; exact HOB2.out), HSVAL.out, HMAP2.out] at hst
                         have HST := Lib.hid hst
                         clear hst
                         go_wp2_with fail
                         exact ⟨⟨j + 1, l, S ++ [⟨ao, ns.length, vc, ns, t⟩], by omega, by go_num, by rw [List.map_append]; exact HST.out, HO54.out, by rw [flatS_snoc, List.length_append]; exact HO64.out, HI4.out, by rw [List.length_append]; simp; omega, by omega, HB4.out⟩, by simp [intOf]; omega⟩)
        · have b1 : (s0.toList == [115, 99, 97, 110]) = false := by rw [ByteArray.toList_eq, ← hw0]; simpa using hscan
          have hst := HRES2.out
          rw [readW_bad hnsr (by rw [HSRC.out.2]; exact scanOkL_other hscan)] at hst
          have HST := Lib.hid hst
          clear hst hnsr hsrc hscan hw0
          go_wp2_with fail
          go_ret3
          exact ⟨.inl ⟨j + 1, HST.out.symm, by omega, by rfl⟩, HB1.out⟩
    · obtain rfl : j = len := by omega
      have hres := HRES.out
      rw [List.drop_of_length_le (by omega)] at hres
      have HRES2 := Lib.hid (show Sum.inr (l, S.map val) = Res from hres)
      have i0 : decide ((j : Int) < (j : Int)) = false := decide_eq_false (by omega)
      have hSc := scans_of HO6.out HI.out
      obtain ⟨ao, vc, rfl⟩ : ∃ ao vc, u6 = .slice ao S.length vc := by
        rcases HO6.out.2 with ⟨h1, h2⟩ | ⟨g, c, _, hv, _⟩
        · exact ⟨_, _, by rw [h1, h2]⟩
        · exact ⟨_, _, hv⟩
      have HSC := Lib.hid hSc
      clear hSc hres
      rcases Joins.ownsRow_forms HO5.out with ⟨rfl, hl0⟩ | ⟨g, c, rfl⟩
      · obtain rfl := List.length_eq_zero_iff.1 hl0
        have kc := fun w : World => Lib.run_convert_nil_bytes (P := Tryz.prog) w 49 9 5 0 Tryz.underlying49 Tryz.underlying5 Tryz.underlying9
        go_wp2_with fail
        go_ret3
        exact ⟨.inr ⟨_, S, ao, vc, HRES2.out.symm, by rfl, HSC.out, by omega⟩, HB.out⟩
      · have kc := run_convert_bytes_back (P := Tryz.prog) wr 49 9 5 ⟨g, 0, none⟩ c l Tryz.underlying49 Tryz.underlying5 Tryz.underlying9 (fun j hj => World.ownsRow.cells HO5.out (g := g) rfl j _ (by simp [Lib.byteCells, List.getElem?_map, List.getElem?_eq_getElem hj]))
        go_wp2_with fail
        go_ret3
        exact ⟨.inr ⟨_, S, ao, vc, HRES2.out.symm, by rfl, HSC.out, by omega⟩, HB.out⟩
end Go.Proofs.YtjbagjmjbfiddaaGreatDoor
