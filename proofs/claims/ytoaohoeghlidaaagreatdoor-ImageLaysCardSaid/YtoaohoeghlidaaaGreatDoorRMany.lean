/-
  The program's reader: lists.
-/
import Derived.Test.YtoaohoeghlidaaaGreatDoorRText
namespace Go.Proofs.YtoaohoeghlidaaaGreatDoor
open Go.ChangeShapes Go.WideShapes Go.ChangeAt Go.RowKit

/-- the blocks from lo on that hold cells of these types -/
def SB (lo : Nat) (ts : List TypeId) (W : World) (k : Nat) : Prop := lo ≤ k ∧ ∃ cs t fz, W.heap[k]? = some (.cells cs t fz) ∧ t ∈ ts
/-- those blocks stay -/
def Kp (lo : Nat) (ts : List TypeId) (W W' : World) : Prop := ∀ k cs t fz, lo ≤ k → W.heap[k]? = some (.cells cs t fz) → t ∈ ts → W'.heap[k]? = W.heap[k]?
theorem Kp.trans {lo : Nat} {ts : List TypeId} {W W1 W2 : World} (h : Kp lo ts W W1) (h' : Kp lo ts W1 W2) : Kp lo ts W W2 := fun k cs t fz hk hc ht => (h' k cs t fz hk ((h k cs t fz hk hc ht).trans hc) ht).trans (h k cs t fz hk hc ht)
theorem Kp.of {b lo : Nat} {ts : List TypeId} {W W1 : World} (h : KFr b W W1) (hb : b < lo) : Kp lo ts W W1 := fun k _ _ _ hk hc _ => h.block k (heap_lt hc) (by omega)
theorem Kp.alloc (lo : Nat) (ts : List TypeId) (W : World) (o : Obj) : Kp lo ts W (W.alloc o) := fun _ _ _ _ _ hc _ => Below.heap_alloc _ _ _ (heap_lt hc)
theorem own_type {w : World} {base size : Nat} {e : TypeId} {v : Value} {n : Nat} {xs : List Value} (h : w.ownsRow base e size v n xs) {k : Nat} (hv : v.ownBlock = some k) : base ≤ k ∧ k < w.heap.size ∧ ∃ cs fz, w.heap[k]? = some (.cells cs e fz) := by
  rcases h.2 with ⟨h1, _⟩ | ⟨g, cap, cur, h1, hb, hg, _⟩
  · rw [h1] at hv; cases hv
  · rw [h1] at hv
    simp [Value.ownBlock] at hv
    subst hv
    exact ⟨hb, heap_lt hg, _, _, hg⟩
theorem Kp.grown {lo : Nat} {ts : List TypeId} {W W1 : World} {base size : Nat} {e : TypeId} {v : Value} {n : Nat} {xs : List Value} (hg : W.grownBy W1 v.ownBlock) (ho : W.ownsRow base e size v n xs) (he : e ∉ ts) : Kp lo ts W W1 := by
  intro k cs t fz _ hc ht
  refine hg.block k (heap_lt hc) (fun e' => ?_)
  obtain ⟨_, _, cs', fz', h2⟩ := own_type ho e'.symm
  rw [hc] at h2
  cases h2
  exact he ht
theorem is_step {T : Type} {sh : Sh T} {lo : Nat} {ts : List TypeId} {W W' : World} {vs : List Value} {x : T} (h : sh.Is (SB lo ts W) W vs x) (hk : Kp lo ts W W') : sh.Is (SB lo ts W') W' vs x :=
  sh.wide (fun k ⟨h1, cs, t, fz, h2, h3⟩ => ⟨h1, cs, t, fz, (hk k cs t fz h1 h2 h3).trans h2, h3⟩) (sh.keep (fun k ⟨h1, cs, t, fz, h2, h3⟩ => hk k cs t fz h1 h2 h3) h)
theorem is_wide {T : Type} {sh : Sh T} {lo lo' : Nat} {ts ts' : List TypeId} {W : World} {vs : List Value} {x : T} (h : sh.Is (SB lo ts W) W vs x) (hl : lo' ≤ lo) (ht : ∀ t, t ∈ ts → t ∈ ts') : sh.Is (SB lo' ts' W) W vs x :=
  sh.wide (fun _ ⟨h1, cs, t, fz, h2, h3⟩ => ⟨Nat.le_trans hl h1, cs, t, fz, h2, ht t h3⟩) h
theorem KFr.grown {b : Nat} {W W1 W2 : World} {size : Nat} {e : TypeId} {v : Value} {n : Nat} {xs : List Value} (h : KFr b W W1) (hg : W1.grownBy W2 v.ownBlock) (ho : W1.ownsRow W.heap.size e size v n xs) : KFr b W W2 :=
  ⟨hg.os.trans h.os, hg.tape.trans h.tape, hg.output.trans h.output, Nat.le_trans h.size hg.size, fun k hk hne => (hg.block k (Nat.lt_of_lt_of_le hk h.size) (fun e' => by have := (own_type ho e'.symm).1; omega)).trans (h.block k hk hne)⟩
theorem RAt.grown {W1 W2 : World} {b lo : Nat} {B : List UInt8} {s : Rst} {size : Nat} {e : TypeId} {v : Value} {n : Nat} {xs : List Value} (h : RAt W1 b B s) (hb : b < lo) (hg : W1.grownBy W2 v.ownBlock) (ho : W1.ownsRow lo e size v n xs) : RAt W2 b B s :=
  h.kept (fun k hk => hg.block k (Nat.lt_of_le_of_lt hk h.lt) (fun e' => by have := (own_type ho e'.symm).1; omega))
theorem RAt.alloc {W : World} {b : Nat} {B : List UInt8} {s : Rst} (h : RAt W b B s) (o : Obj) : RAt (W.alloc o) b B s := h.kept (fun k hk => Below.heap_alloc _ _ k (Nat.lt_of_le_of_lt hk h.lt))
theorem own_kfr {W W1 : World} {b lo : Nat} {size : Nat} {e : TypeId} {v : Value} {n : Nat} {xs : List Value} (ho : W.ownsRow lo e size v n xs) (hb : b < lo) (h : KFr b W W1) : W1.ownsRow lo e size v n xs := by
  refine ⟨ho.1, ?_⟩
  rcases ho.2 with h1 | ⟨g, cap, cur, hv, hg, hc, hr⟩
  · exact .inl h1
  · exact .inr ⟨g, cap, cur, hv, hg, (h.block g (heap_lt hc) (by omega)).trans hc, hr⟩
theorem own_slice {W : World} {lo : Nat} {size : Nat} {e : TypeId} {v : Value} {n : Nat} {xs : List Value} (ho : W.ownsRow lo e size v n xs) : ∃ a l c, v = .slice a l c ∧ l = n := by
  rcases Joins.ownsRow_forms ho with ⟨h, h2⟩ | ⟨g, c, h⟩
  · exact ⟨_, _, _, h, h2.symm⟩
  · exact ⟨_, _, _, h, rfl⟩

/-- a function of the program that reads one -/
def Rd (f : Nat) (mk : List Value → Value) {T : Type} (sh : Sh T) (c : Codec T) (ts : List TypeId) : Prop :=
  ∀ (B : List UInt8) (b : Nat) (s : Rst) (W : World), RAt W b B s →
    Calls Tryz.prog f #[.pointer (some ⟨b, 0, none⟩)] W fun e W' => ∃ vs, e = .returned (mk vs) ∧ sh.Is (SB W.heap.size ts W') W' vs (c.r B s).1 ∧ RAt W' b B (c.r B s).2 ∧ KFr b W W'
theorem rGo_one {T : Type} {one : Rst → T × Rst} {m : Nat} {acc : List T} {s : Rst} (hw : s.wrong = false) : rGo one (m + 1) acc s = rGo one m (acc ++ [(one s).1]) (one s).2 := by
  conv => lhs; unfold rGo
  rw [if_neg (by simp [hw])]
theorem rGo_bad {T : Type} {one : Rst → T × Rst} {m : Nat} {acc : List T} {s : Rst} (hw : s.wrong = true) : rGo one (m + 1) acc s = ([], s) := by
  unfold rGo
  rw [if_pos hw]

theorem info_Ints : (Tryz.prog.info? 3).map (fun i => (i.zero, i.size, i.bytes)) = some (some (.int .i64 0), 1, 8) := by kernel_rfl
set_option maxHeartbeats 1600000 in
set_option maxRecDepth 100000 in
theorem severalInts (H : Rd 90 mk1 shInt cNum []) (B : List UInt8) (b : Nat) (s : Rst) (W : World) (h : RAt W b B s) :
    Calls Tryz.prog 107 #[.pointer (some ⟨b, 0, none⟩), .func (.func 90) #[] #[]] W fun e W' => ∃ vs, e = .returned (mk1 vs) ∧ (shSlice shInt).Is (SB W.heap.size [3] W') W' vs ((cList cNum).r B s).1 ∧ RAt W' b B ((cList cNum).r B s).2 ∧ KFr b W W' := by
  obtain ⟨i00, hi, hz0, hz1, hz2⟩ := info_parts info_Ints
  have hblt := h.lt
  have hc := rcount_any 4 (by omega) (by omega) B b s W h
  have hcl := rCount_le B 4 s
  obtain ⟨R, hres⟩ : ∃ R, (cList cNum).r B s = R := ⟨_, rfl⟩
  rw [hres]
  have hres2 : rGo (cNum.r B) (rCount B 4 s).1 [] (rCount B 4 s).2 = R := hres
  obtain ⟨⟨cnt, t0⟩, hx⟩ : ∃ r, rCount B 4 s = r := ⟨_, rfl⟩
  rw [hx] at hc hres2 hcl
  simp only at hc hres2 hcl
  have HRES := Lib.hid hres2
  clear h hres hres2 hx
  go_enter Tryz.func107, Tryz.ntmps107
  go_wp2_with (go_at_call 78; refine hc.mono ?_)
  rintro e W1 ⟨rfl, hr, hf⟩
  have HR := Lib.hid hr
  have HF := Lib.hid hf
  clear hr hf hc
  go_wp2_with fail
  go_loopw [5, 8] (fun v i wr => ∃ (k : Nat) (acc : List Int) (vss : List (List Value)) (t : Rst), k ≤ cnt ∧ i = .int .i64 k ∧ acc.length = k ∧ vss.length = k ∧ wr.ownsRow W.heap.size 3 1 v k vss.flatten ∧ (∀ (i : Nat) (vs : List Value) (x : Int), vss[i]? = some vs → acc[i]? = some x → shInt.Is (SB W.heap.size [] wr) wr vs x) ∧ RAt wr b B t ∧ KFr b W wr ∧ rGo (cNum.r B) (cnt - k) acc t = R) (fun _ i _ => cnt - (intOf i).toNat)
  case atStart => exact ⟨0, [], [], t0, Nat.zero_le _, rfl, rfl, rfl, World.ownsRow_nil _ _ _ _, fun i _ _ h => by simp at h, HR.out, HF.out, by rw [Nat.sub_zero]; exact HRES.out⟩
  case round =>
    clear HR HF
    obtain ⟨k, acc, vss, t, hk, rfl, hal, hvl, hown, hIs, hr, hf, hgo⟩ := hrel
    obtain ⟨a9, n9, cap9, g0, g1, g2, g3, g4, -⟩ := hr.cells
    have HO := Lib.hid hown
    have HIS := Lib.hid hIs
    have HR := Lib.hid hr
    have HF := Lib.hid hf
    have HGO := Lib.hid hgo
    clear hown hIs hr hf hgo g0 g1 g3 g4
    by_cases hlt : k < cnt
    · have i0 : (k : Int) < (cnt : Int) := by omega
      have hm : cnt - k = (cnt - (k + 1)) + 1 := by omega
      rw [hm] at HGO
      cases hw : t.wrong with
      | true =>
        rw [hw] at g2
        have HW := Lib.hid hw
        clear hw
        go_wp2_with fail
        go_returns
        refine ⟨[.slice none 0 0], rfl, ?_⟩
        have hR := HGO.out
        rw [rGo_bad HW.out] at hR
        rw [← hR]
        exact ⟨⟨none, 0, 0, rfl, Row.nil _ _ _ _⟩, HR.out, HF.out⟩
      | false =>
        rw [hw] at g2
        have HW := Lib.hid hw
        have hH := H B b t wr HR.out
        obtain ⟨⟨x, t1⟩, hx⟩ : ∃ r, cNum.r B t = r := ⟨_, rfl⟩
        rw [hx] at hH
        simp only at hH
        have HX := Lib.hid hx
        clear hw hx
        go_wp2_with (go_at_call 90; refine hH.mono ?_)
        rintro e W2 ⟨vs, rfl, hI, hr2, hf2⟩
        have HI := Lib.hid hI
        obtain rfl := int_is.1 hI
        have HR2 := Lib.hid hr2
        have HF2 := Lib.hid hf2
        have hszW := HF.out.size
        have HO2 := Lib.hid ((own_kfr HO.out hblt hf2).alloc (.cells [.int .i64 x].toArray 3))
        clear hI hr2 hf2 hH g2
        simp only [mk1, List.headD_cons]
        go_wp2_with (at_builtin; refine wpList_append_own _ rfl (.tmp 14) (.tmp 18) 25 rfl W.heap.size 3 i00 (.int .i64 0) 1 8 Tryz.underlying25 hi hz0 hz1 hz2 rfl (by decide) _ k vss.flatten rfl HO2.out ⟨W2.heap.size, 0, none⟩ 1 1 [.int .i64 x] rfl rfl ?c1 ?c2 ?c3 ?c4 ?c5 ?_)
        case c1 => exact lit_cells W2 [.int .i64 x].toArray 3
        case c2 => intro u hu; simp only [List.mem_cons, List.not_mem_nil, or_false] at hu; rcases hu with rfl <;> rfl
        case c3 => unfold maxLen; omega
        case c4 => omega
        case c5 => have := HF.out.size; have := HF2.out.size; simp; omega
        intro v1 W3 hown1 hgrow1 _
        obtain ⟨q1, q2, rfl⟩ := Joins.ownsRow_form hown1 (by omega)
        have hfl : vss.flatten ++ ([.int .i64 x] : List Value) = (vss ++ [([.int .i64 x] : List Value)]).flatten := by rw [List.flatten_append, List.flatten_singleton]
        rw [hfl] at hown1
        have hfA := (HF.out.trans HF2.out).alloc (.cells [.int .i64 x].toArray 3)
        have HF3 := Lib.hid (hfA.grown hgrow1 HO2.out)
        have HR3 := Lib.hid ((HR2.out.alloc (.cells [.int .i64 x].toArray 3)).grown hblt hgrow1 HO2.out)
        have hkp : Kp W.heap.size [] W2 W3 := (Kp.alloc _ _ _ _).trans (Kp.grown hgrow1 HO2.out (by decide))
        have hkp0 : Kp W.heap.size [] wr W3 := (Kp.of HF2.out hblt).trans hkp
        have HIS3 := Lib.hid (show ∀ (i : Nat) (vs : List Value) (y : Int), (vss ++ [[.int .i64 x]])[i]? = some vs → (acc ++ [x])[i]? = some y → shInt.Is (SB W.heap.size [] W3) W3 vs y by
          intro i us y h1 h2
          rcases Nat.lt_or_ge i k with hi | hi
          · rw [List.getElem?_append_left (by omega)] at h1 h2
            exact is_step (HIS.out i us y h1 h2) hkp0
          · rw [List.getElem?_append_right (by omega)] at h1 h2
            have hi0 : i - k = 0 := by
              have := (List.getElem?_eq_some_iff.1 h1).1
              simp at this; omega
            rw [hvl, hi0] at h1
            rw [hal, hi0] at h2
            simp only [List.getElem?_cons_zero, Option.some.injEq] at h1 h2
            subst h1
            subst h2
            exact is_step (is_wide HI.out hszW (fun _ h => h)) hkp)
        have HO3 := Lib.hid hown1
        clear hown1 hgrow1 hfA hkp hkp0
        go_wp2_with fail
        refine ⟨⟨k + 1, acc ++ [x], vss ++ [[.int .i64 x]], t1, by omega, by go_num, by simp [hal], by simp [hvl], HO3.out, HIS3.out, HR3.out, HF3.out, ?_⟩, by simp [intOf]; omega⟩
        have hg := HGO.out
        rw [rGo_one HW.out, HX.out] at hg
        exact hg
    · obtain rfl : k = cnt := by omega
      obtain ⟨a1, q1, q2, rfl, hq⟩ := own_slice HO.out
      subst hq
      go_wp2_with fail
      go_returns
      refine ⟨[.slice a1 q1 q2], rfl, ?_⟩
      have hg := HGO.out
      rw [Nat.sub_self] at hg
      have hg2 : R = (acc, t) := hg.symm
      rw [hg2]
      refine ⟨⟨a1, q1, q2, rfl, ?_⟩, HR.out, HF.out⟩
      have ho := HO.out
      rw [← hal] at ho ⊢
      exact row_of_own (sh := shInt) ho (hvl.trans hal.symm) (fun i vs y h1 h2 => is_wide (HIS.out i vs y h1 h2) (Nat.le_refl _) (fun u hu => List.mem_cons_of_mem _ hu)) (fun u hu => by
        obtain ⟨h1, _, cs, fz, h2⟩ := own_type ho hu
        exact ⟨h1, cs, _, fz, h2, List.mem_cons_self⟩)

theorem info_Texts : (Tryz.prog.info? 9).map (fun i => (i.zero, i.size, i.bytes)) = some (some (.string ⟨#[]⟩), 1, 16) := by kernel_rfl
set_option maxHeartbeats 1600000 in
set_option maxRecDepth 100000 in
theorem severalTexts (H : Rd 44 mk1 shStr cText []) (B : List UInt8) (b : Nat) (s : Rst) (W : World) (h : RAt W b B s) :
    Calls Tryz.prog 101 #[.pointer (some ⟨b, 0, none⟩), .func (.func 44) #[] #[]] W fun e W' => ∃ vs, e = .returned (mk1 vs) ∧ (shSlice shStr).Is (SB W.heap.size [9] W') W' vs ((cList cText).r B s).1 ∧ RAt W' b B ((cList cText).r B s).2 ∧ KFr b W W' := by
  obtain ⟨i00, hi, hz0, hz1, hz2⟩ := info_parts info_Texts
  have hblt := h.lt
  have hc := rcount_any 4 (by omega) (by omega) B b s W h
  have hcl := rCount_le B 4 s
  obtain ⟨R, hres⟩ : ∃ R, (cList cText).r B s = R := ⟨_, rfl⟩
  rw [hres]
  have hres2 : rGo (cText.r B) (rCount B 4 s).1 [] (rCount B 4 s).2 = R := hres
  obtain ⟨⟨cnt, t0⟩, hx⟩ : ∃ r, rCount B 4 s = r := ⟨_, rfl⟩
  rw [hx] at hc hres2 hcl
  simp only at hc hres2 hcl
  have HRES := Lib.hid hres2
  clear h hres hres2 hx
  go_enter Tryz.func101, Tryz.ntmps101
  go_wp2_with (go_at_call 78; refine hc.mono ?_)
  rintro e W1 ⟨rfl, hr, hf⟩
  have HR := Lib.hid hr
  have HF := Lib.hid hf
  clear hr hf hc
  go_wp2_with fail
  go_loopw [5, 8] (fun v i wr => ∃ (k : Nat) (acc : List ByteArray) (vss : List (List Value)) (t : Rst), k ≤ cnt ∧ i = .int .i64 k ∧ acc.length = k ∧ vss.length = k ∧ wr.ownsRow W.heap.size 9 1 v k vss.flatten ∧ (∀ (i : Nat) (vs : List Value) (x : ByteArray), vss[i]? = some vs → acc[i]? = some x → shStr.Is (SB W.heap.size [] wr) wr vs x) ∧ RAt wr b B t ∧ KFr b W wr ∧ rGo (cText.r B) (cnt - k) acc t = R) (fun _ i _ => cnt - (intOf i).toNat)
  case atStart => exact ⟨0, [], [], t0, Nat.zero_le _, rfl, rfl, rfl, World.ownsRow_nil _ _ _ _, fun i _ _ h => by simp at h, HR.out, HF.out, by rw [Nat.sub_zero]; exact HRES.out⟩
  case round =>
    clear HR HF
    obtain ⟨k, acc, vss, t, hk, rfl, hal, hvl, hown, hIs, hr, hf, hgo⟩ := hrel
    obtain ⟨a9, n9, cap9, g0, g1, g2, g3, g4, -⟩ := hr.cells
    have HO := Lib.hid hown
    have HIS := Lib.hid hIs
    have HR := Lib.hid hr
    have HF := Lib.hid hf
    have HGO := Lib.hid hgo
    clear hown hIs hr hf hgo g0 g1 g3 g4
    by_cases hlt : k < cnt
    · have i0 : (k : Int) < (cnt : Int) := by omega
      have hm : cnt - k = (cnt - (k + 1)) + 1 := by omega
      rw [hm] at HGO
      cases hw : t.wrong with
      | true =>
        rw [hw] at g2
        have HW := Lib.hid hw
        clear hw
        go_wp2_with fail
        go_returns
        refine ⟨[.slice none 0 0], rfl, ?_⟩
        have hR := HGO.out
        rw [rGo_bad HW.out] at hR
        rw [← hR]
        exact ⟨⟨none, 0, 0, rfl, Row.nil _ _ _ _⟩, HR.out, HF.out⟩
      | false =>
        rw [hw] at g2
        have HW := Lib.hid hw
        have hH := H B b t wr HR.out
        obtain ⟨⟨x, t1⟩, hx⟩ : ∃ r, cText.r B t = r := ⟨_, rfl⟩
        rw [hx] at hH
        simp only at hH
        have HX := Lib.hid hx
        clear hw hx
        go_wp2_with (go_at_call 44; refine hH.mono ?_)
        rintro e W2 ⟨vs, rfl, hI, hr2, hf2⟩
        have HI := Lib.hid hI
        obtain rfl := str_is.1 hI
        have HR2 := Lib.hid hr2
        have HF2 := Lib.hid hf2
        have hszW := HF.out.size
        have HO2 := Lib.hid ((own_kfr HO.out hblt hf2).alloc (.cells [.string x].toArray 9))
        clear hI hr2 hf2 hH g2
        simp only [mk1, List.headD_cons]
        go_wp2_with (at_builtin; refine wpList_append_own _ rfl (.tmp 14) (.tmp 18) 53 rfl W.heap.size 9 i00 (.string ⟨#[]⟩) 1 16 Tryz.underlying53 hi hz0 hz1 hz2 rfl (by decide) _ k vss.flatten rfl HO2.out ⟨W2.heap.size, 0, none⟩ 1 1 [.string x] rfl rfl ?c1 ?c2 ?c3 ?c4 ?c5 ?_)
        case c1 => exact lit_cells W2 [.string x].toArray 9
        case c2 => intro u hu; simp only [List.mem_cons, List.not_mem_nil, or_false] at hu; rcases hu with rfl <;> rfl
        case c3 => unfold maxLen; omega
        case c4 => omega
        case c5 => have := HF.out.size; have := HF2.out.size; simp; omega
        intro v1 W3 hown1 hgrow1 _
        obtain ⟨q1, q2, rfl⟩ := Joins.ownsRow_form hown1 (by omega)
        have hfl : vss.flatten ++ ([.string x] : List Value) = (vss ++ [([.string x] : List Value)]).flatten := by rw [List.flatten_append, List.flatten_singleton]
        rw [hfl] at hown1
        have hfA := (HF.out.trans HF2.out).alloc (.cells [.string x].toArray 9)
        have HF3 := Lib.hid (hfA.grown hgrow1 HO2.out)
        have HR3 := Lib.hid ((HR2.out.alloc (.cells [.string x].toArray 9)).grown hblt hgrow1 HO2.out)
        have hkp : Kp W.heap.size [] W2 W3 := (Kp.alloc _ _ _ _).trans (Kp.grown hgrow1 HO2.out (by decide))
        have hkp0 : Kp W.heap.size [] wr W3 := (Kp.of HF2.out hblt).trans hkp
        have HIS3 := Lib.hid (show ∀ (i : Nat) (vs : List Value) (y : ByteArray), (vss ++ [[.string x]])[i]? = some vs → (acc ++ [x])[i]? = some y → shStr.Is (SB W.heap.size [] W3) W3 vs y by
          intro i us y h1 h2
          rcases Nat.lt_or_ge i k with hi | hi
          · rw [List.getElem?_append_left (by omega)] at h1 h2
            exact is_step (HIS.out i us y h1 h2) hkp0
          · rw [List.getElem?_append_right (by omega)] at h1 h2
            have hi0 : i - k = 0 := by
              have := (List.getElem?_eq_some_iff.1 h1).1
              simp at this; omega
            rw [hvl, hi0] at h1
            rw [hal, hi0] at h2
            simp only [List.getElem?_cons_zero, Option.some.injEq] at h1 h2
            subst h1
            subst h2
            exact is_step (is_wide HI.out hszW (fun _ h => h)) hkp)
        have HO3 := Lib.hid hown1
        clear hown1 hgrow1 hfA hkp hkp0
        go_wp2_with fail
        refine ⟨⟨k + 1, acc ++ [x], vss ++ [[.string x]], t1, by omega, by go_num, by simp [hal], by simp [hvl], HO3.out, HIS3.out, HR3.out, HF3.out, ?_⟩, by simp [intOf]; omega⟩
        have hg := HGO.out
        rw [rGo_one HW.out, HX.out] at hg
        exact hg
    · obtain rfl : k = cnt := by omega
      obtain ⟨a1, q1, q2, rfl, hq⟩ := own_slice HO.out
      subst hq
      go_wp2_with fail
      go_returns
      refine ⟨[.slice a1 q1 q2], rfl, ?_⟩
      have hg := HGO.out
      rw [Nat.sub_self] at hg
      have hg2 : R = (acc, t) := hg.symm
      rw [hg2]
      refine ⟨⟨a1, q1, q2, rfl, ?_⟩, HR.out, HF.out⟩
      have ho := HO.out
      rw [← hal] at ho ⊢
      exact row_of_own (sh := shStr) ho (hvl.trans hal.symm) (fun i vs y h1 h2 => is_wide (HIS.out i vs y h1 h2) (Nat.le_refl _) (fun u hu => List.mem_cons_of_mem _ hu)) (fun u hu => by
        obtain ⟨h1, _, cs, fz, h2⟩ := own_type ho hu
        exact ⟨h1, cs, _, fz, h2, List.mem_cons_self⟩)

theorem info_Faces : (Tryz.prog.info? 53).map (fun i => (i.zero, i.size, i.bytes)) = some (some (.slice none 0 0), 1, 24) := by kernel_rfl
set_option maxHeartbeats 1600000 in
set_option maxRecDepth 100000 in
theorem severalFaces (H : Rd 80 mk1 shTexts cTexts [9]) (B : List UInt8) (b : Nat) (s : Rst) (W : World) (h : RAt W b B s) :
    Calls Tryz.prog 79 #[.pointer (some ⟨b, 0, none⟩), .func (.func 80) #[] #[]] W fun e W' => ∃ vs, e = .returned (mk1 vs) ∧ (shSlice shTexts).Is (SB W.heap.size [53, 9] W') W' vs ((cList cTexts).r B s).1 ∧ RAt W' b B ((cList cTexts).r B s).2 ∧ KFr b W W' := by
  obtain ⟨i00, hi, hz0, hz1, hz2⟩ := info_parts info_Faces
  have hblt := h.lt
  have hc := rcount_any 4 (by omega) (by omega) B b s W h
  have hcl := rCount_le B 4 s
  obtain ⟨R, hres⟩ : ∃ R, (cList cTexts).r B s = R := ⟨_, rfl⟩
  rw [hres]
  have hres2 : rGo (cTexts.r B) (rCount B 4 s).1 [] (rCount B 4 s).2 = R := hres
  obtain ⟨⟨cnt, t0⟩, hx⟩ : ∃ r, rCount B 4 s = r := ⟨_, rfl⟩
  rw [hx] at hc hres2 hcl
  simp only at hc hres2 hcl
  have HRES := Lib.hid hres2
  clear h hres hres2 hx
  go_enter Tryz.func79, Tryz.ntmps79
  go_wp2_with (go_at_call 78; refine hc.mono ?_)
  rintro e W1 ⟨rfl, hr, hf⟩
  have HR := Lib.hid hr
  have HF := Lib.hid hf
  clear hr hf hc
  go_wp2_with fail
  go_loopw [5, 8] (fun v i wr => ∃ (k : Nat) (acc : List (List ByteArray)) (vss : List (List Value)) (t : Rst), k ≤ cnt ∧ i = .int .i64 k ∧ acc.length = k ∧ vss.length = k ∧ wr.ownsRow W.heap.size 53 1 v k vss.flatten ∧ (∀ (i : Nat) (vs : List Value) (x : (List ByteArray)), vss[i]? = some vs → acc[i]? = some x → shTexts.Is (SB W.heap.size [9] wr) wr vs x) ∧ RAt wr b B t ∧ KFr b W wr ∧ rGo (cTexts.r B) (cnt - k) acc t = R) (fun _ i _ => cnt - (intOf i).toNat)
  case atStart => exact ⟨0, [], [], t0, Nat.zero_le _, rfl, rfl, rfl, World.ownsRow_nil _ _ _ _, fun i _ _ h => by simp at h, HR.out, HF.out, by rw [Nat.sub_zero]; exact HRES.out⟩
  case round =>
    clear HR HF
    obtain ⟨k, acc, vss, t, hk, rfl, hal, hvl, hown, hIs, hr, hf, hgo⟩ := hrel
    obtain ⟨a9, n9, cap9, g0, g1, g2, g3, g4, -⟩ := hr.cells
    have HO := Lib.hid hown
    have HIS := Lib.hid hIs
    have HR := Lib.hid hr
    have HF := Lib.hid hf
    have HGO := Lib.hid hgo
    clear hown hIs hr hf hgo g0 g1 g3 g4
    by_cases hlt : k < cnt
    · have i0 : (k : Int) < (cnt : Int) := by omega
      have hm : cnt - k = (cnt - (k + 1)) + 1 := by omega
      rw [hm] at HGO
      cases hw : t.wrong with
      | true =>
        rw [hw] at g2
        have HW := Lib.hid hw
        clear hw
        go_wp2_with fail
        go_returns
        refine ⟨[.slice none 0 0], rfl, ?_⟩
        have hR := HGO.out
        rw [rGo_bad HW.out] at hR
        rw [← hR]
        exact ⟨⟨none, 0, 0, rfl, Row.nil _ _ _ _⟩, HR.out, HF.out⟩
      | false =>
        rw [hw] at g2
        have HW := Lib.hid hw
        have hH := H B b t wr HR.out
        obtain ⟨⟨x, t1⟩, hx⟩ : ∃ r, cTexts.r B t = r := ⟨_, rfl⟩
        rw [hx] at hH
        simp only at hH
        have HX := Lib.hid hx
        clear hw hx
        go_wp2_with (go_at_call 80; refine hH.mono ?_)
        rintro e W2 ⟨vs, rfl, hI, hr2, hf2⟩
        have HI := Lib.hid hI
        obtain ⟨a0, l0, c0, rfl, h0⟩ := slice_is.1 hI
        have HR2 := Lib.hid hr2
        have HF2 := Lib.hid hf2
        have hszW := HF.out.size
        have HO2 := Lib.hid ((own_kfr HO.out hblt hf2).alloc (.cells [.slice a0 l0 c0].toArray 53))
        clear hI hr2 hf2 hH g2 h0
        simp only [mk1, List.headD_cons]
        go_wp2_with (at_builtin; refine wpList_append_own _ rfl (.tmp 14) (.tmp 18) 22 rfl W.heap.size 53 i00 (.slice none 0 0) 1 24 Tryz.underlying22 hi hz0 hz1 hz2 rfl (by decide) _ k vss.flatten rfl HO2.out ⟨W2.heap.size, 0, none⟩ 1 1 [.slice a0 l0 c0] rfl rfl ?c1 ?c2 ?c3 ?c4 ?c5 ?_)
        case c1 => exact lit_cells W2 [.slice a0 l0 c0].toArray 53
        case c2 => intro u hu; simp only [List.mem_cons, List.not_mem_nil, or_false] at hu; rcases hu with rfl <;> rfl
        case c3 => unfold maxLen; omega
        case c4 => omega
        case c5 => have := HF.out.size; have := HF2.out.size; simp; omega
        intro v1 W3 hown1 hgrow1 _
        obtain ⟨q1, q2, rfl⟩ := Joins.ownsRow_form hown1 (by omega)
        have hfl : vss.flatten ++ ([.slice a0 l0 c0] : List Value) = (vss ++ [([.slice a0 l0 c0] : List Value)]).flatten := by rw [List.flatten_append, List.flatten_singleton]
        rw [hfl] at hown1
        have hfA := (HF.out.trans HF2.out).alloc (.cells [.slice a0 l0 c0].toArray 53)
        have HF3 := Lib.hid (hfA.grown hgrow1 HO2.out)
        have HR3 := Lib.hid ((HR2.out.alloc (.cells [.slice a0 l0 c0].toArray 53)).grown hblt hgrow1 HO2.out)
        have hkp : Kp W.heap.size [9] W2 W3 := (Kp.alloc _ _ _ _).trans (Kp.grown hgrow1 HO2.out (by decide))
        have hkp0 : Kp W.heap.size [9] wr W3 := (Kp.of HF2.out hblt).trans hkp
        have HIS3 := Lib.hid (show ∀ (i : Nat) (vs : List Value) (y : (List ByteArray)), (vss ++ [[.slice a0 l0 c0]])[i]? = some vs → (acc ++ [x])[i]? = some y → shTexts.Is (SB W.heap.size [9] W3) W3 vs y by
          intro i us y h1 h2
          rcases Nat.lt_or_ge i k with hi | hi
          · rw [List.getElem?_append_left (by omega)] at h1 h2
            exact is_step (HIS.out i us y h1 h2) hkp0
          · rw [List.getElem?_append_right (by omega)] at h1 h2
            have hi0 : i - k = 0 := by
              have := (List.getElem?_eq_some_iff.1 h1).1
              simp at this; omega
            rw [hvl, hi0] at h1
            rw [hal, hi0] at h2
            simp only [List.getElem?_cons_zero, Option.some.injEq] at h1 h2
            subst h1
            subst h2
            exact is_step (is_wide HI.out hszW (fun _ h => h)) hkp)
        have HO3 := Lib.hid hown1
        clear hown1 hgrow1 hfA hkp hkp0
        go_wp2_with fail
        refine ⟨⟨k + 1, acc ++ [x], vss ++ [[.slice a0 l0 c0]], t1, by omega, by go_num, by simp [hal], by simp [hvl], HO3.out, HIS3.out, HR3.out, HF3.out, ?_⟩, by simp [intOf]; omega⟩
        have hg := HGO.out
        rw [rGo_one HW.out, HX.out] at hg
        exact hg
    · obtain rfl : k = cnt := by omega
      obtain ⟨a1, q1, q2, rfl, hq⟩ := own_slice HO.out
      subst hq
      go_wp2_with fail
      go_returns
      refine ⟨[.slice a1 q1 q2], rfl, ?_⟩
      have hg := HGO.out
      rw [Nat.sub_self] at hg
      have hg2 : R = (acc, t) := hg.symm
      rw [hg2]
      refine ⟨⟨a1, q1, q2, rfl, ?_⟩, HR.out, HF.out⟩
      have ho := HO.out
      rw [← hal] at ho ⊢
      exact row_of_own (sh := shTexts) ho (hvl.trans hal.symm) (fun i vs y h1 h2 => is_wide (HIS.out i vs y h1 h2) (Nat.le_refl _) (fun u hu => List.mem_cons_of_mem _ hu)) (fun u hu => by
        obtain ⟨h1, _, cs, fz, h2⟩ := own_type ho hu
        exact ⟨h1, cs, _, fz, h2, List.mem_cons_self⟩)

theorem info_Tables : (Tryz.prog.info? 58).map (fun i => (i.zero, i.size, i.bytes)) = some (some (.agg #[.int .i64 0, .slice none 0 0]), 2, 32) := by kernel_rfl
set_option maxHeartbeats 1600000 in
set_option maxRecDepth 100000 in
theorem severalTables (H : Rd 103 mkA shTable cTable [3]) (B : List UInt8) (b : Nat) (s : Rst) (W : World) (h : RAt W b B s) :
    Calls Tryz.prog 102 #[.pointer (some ⟨b, 0, none⟩), .func (.func 103) #[] #[]] W fun e W' => ∃ vs, e = .returned (mk1 vs) ∧ (shSlice shTable).Is (SB W.heap.size [58, 3] W') W' vs ((cList cTable).r B s).1 ∧ RAt W' b B ((cList cTable).r B s).2 ∧ KFr b W W' := by
  obtain ⟨i00, hi, hz0, hz1, hz2⟩ := info_parts info_Tables
  have hblt := h.lt
  have hc := rcount_any 4 (by omega) (by omega) B b s W h
  have hcl := rCount_le B 4 s
  obtain ⟨R, hres⟩ : ∃ R, (cList cTable).r B s = R := ⟨_, rfl⟩
  rw [hres]
  have hres2 : rGo (cTable.r B) (rCount B 4 s).1 [] (rCount B 4 s).2 = R := hres
  obtain ⟨⟨cnt, t0⟩, hx⟩ : ∃ r, rCount B 4 s = r := ⟨_, rfl⟩
  rw [hx] at hc hres2 hcl
  simp only at hc hres2 hcl
  have HRES := Lib.hid hres2
  clear h hres hres2 hx
  go_enter Tryz.func102, Tryz.ntmps102
  go_wp2_with (go_at_call 78; refine hc.mono ?_)
  rintro e W1 ⟨rfl, hr, hf⟩
  have HR := Lib.hid hr
  have HF := Lib.hid hf
  clear hr hf hc
  go_wp2_with fail
  go_loopw [5, 8] (fun v i wr => ∃ (k : Nat) (acc : List TableD) (vss : List (List Value)) (t : Rst), k ≤ cnt ∧ i = .int .i64 k ∧ acc.length = k ∧ vss.length = k ∧ wr.ownsRow W.heap.size 58 2 v k vss.flatten ∧ (∀ (i : Nat) (vs : List Value) (x : TableD), vss[i]? = some vs → acc[i]? = some x → shTable.Is (SB W.heap.size [3] wr) wr vs x) ∧ RAt wr b B t ∧ KFr b W wr ∧ rGo (cTable.r B) (cnt - k) acc t = R) (fun _ i _ => cnt - (intOf i).toNat)
  case atStart => exact ⟨0, [], [], t0, Nat.zero_le _, rfl, rfl, rfl, World.ownsRow_nil _ _ _ _, fun i _ _ h => by simp at h, HR.out, HF.out, by rw [Nat.sub_zero]; exact HRES.out⟩
  case round =>
    clear HR HF
    obtain ⟨k, acc, vss, t, hk, rfl, hal, hvl, hown, hIs, hr, hf, hgo⟩ := hrel
    obtain ⟨a9, n9, cap9, g0, g1, g2, g3, g4, -⟩ := hr.cells
    have HO := Lib.hid hown
    have HIS := Lib.hid hIs
    have HR := Lib.hid hr
    have HF := Lib.hid hf
    have HGO := Lib.hid hgo
    clear hown hIs hr hf hgo g0 g1 g3 g4
    by_cases hlt : k < cnt
    · have i0 : (k : Int) < (cnt : Int) := by omega
      have hm : cnt - k = (cnt - (k + 1)) + 1 := by omega
      rw [hm] at HGO
      cases hw : t.wrong with
      | true =>
        rw [hw] at g2
        have HW := Lib.hid hw
        clear hw
        go_wp2_with fail
        go_returns
        refine ⟨[.slice none 0 0], rfl, ?_⟩
        have hR := HGO.out
        rw [rGo_bad HW.out] at hR
        rw [← hR]
        exact ⟨⟨none, 0, 0, rfl, Row.nil _ _ _ _⟩, HR.out, HF.out⟩
      | false =>
        rw [hw] at g2
        have HW := Lib.hid hw
        have hH := H B b t wr HR.out
        obtain ⟨⟨x, t1⟩, hx⟩ : ∃ r, cTable.r B t = r := ⟨_, rfl⟩
        rw [hx] at hH
        simp only at hH
        have HX := Lib.hid hx
        clear hw hx
        go_wp2_with (go_at_call 103; refine hH.mono ?_)
        rintro e W2 ⟨vs, rfl, hI, hr2, hf2⟩
        have HI := Lib.hid hI
        obtain ⟨a1, l1, c1, rfl, h1⟩ := table_is.1 hI
        have HR2 := Lib.hid hr2
        have HF2 := Lib.hid hf2
        have hszW := HF.out.size
        have HO2 := Lib.hid ((own_kfr HO.out hblt hf2).alloc (.cells [.int .i64 x.face, .slice a1 l1 c1].toArray 58))
        clear hI hr2 hf2 hH g2 h1
        simp only [mkA]
        go_wp2_with (at_builtin; refine wpList_append_own _ rfl (.tmp 14) (.tmp 18) 54 rfl W.heap.size 58 i00 (.agg #[.int .i64 0, .slice none 0 0]) 2 32 Tryz.underlying54 hi hz0 hz1 hz2 rfl (by decide) _ k vss.flatten rfl HO2.out ⟨W2.heap.size, 0, none⟩ 1 1 [.int .i64 x.face, .slice a1 l1 c1] rfl rfl ?c1 ?c2 ?c3 ?c4 ?c5 ?_)
        case c1 => exact lit_cells W2 [.int .i64 x.face, .slice a1 l1 c1].toArray 58
        case c2 => intro u hu; simp only [List.mem_cons, List.not_mem_nil, or_false] at hu; rcases hu with rfl | rfl <;> rfl
        case c3 => unfold maxLen; omega
        case c4 => omega
        case c5 => have := HF.out.size; have := HF2.out.size; simp; omega
        intro v1 W3 hown1 hgrow1 _
        obtain ⟨q1, q2, rfl⟩ := Joins.ownsRow_form hown1 (by omega)
        have hfl : vss.flatten ++ ([.int .i64 x.face, .slice a1 l1 c1] : List Value) = (vss ++ [([.int .i64 x.face, .slice a1 l1 c1] : List Value)]).flatten := by rw [List.flatten_append, List.flatten_singleton]
        rw [hfl] at hown1
        have hfA := (HF.out.trans HF2.out).alloc (.cells [.int .i64 x.face, .slice a1 l1 c1].toArray 58)
        have HF3 := Lib.hid (hfA.grown hgrow1 HO2.out)
        have HR3 := Lib.hid ((HR2.out.alloc (.cells [.int .i64 x.face, .slice a1 l1 c1].toArray 58)).grown hblt hgrow1 HO2.out)
        have hkp : Kp W.heap.size [3] W2 W3 := (Kp.alloc _ _ _ _).trans (Kp.grown hgrow1 HO2.out (by decide))
        have hkp0 : Kp W.heap.size [3] wr W3 := (Kp.of HF2.out hblt).trans hkp
        have HIS3 := Lib.hid (show ∀ (i : Nat) (vs : List Value) (y : TableD), (vss ++ [[.int .i64 x.face, .slice a1 l1 c1]])[i]? = some vs → (acc ++ [x])[i]? = some y → shTable.Is (SB W.heap.size [3] W3) W3 vs y by
          intro i us y h1 h2
          rcases Nat.lt_or_ge i k with hi | hi
          · rw [List.getElem?_append_left (by omega)] at h1 h2
            exact is_step (HIS.out i us y h1 h2) hkp0
          · rw [List.getElem?_append_right (by omega)] at h1 h2
            have hi0 : i - k = 0 := by
              have := (List.getElem?_eq_some_iff.1 h1).1
              simp at this; omega
            rw [hvl, hi0] at h1
            rw [hal, hi0] at h2
            simp only [List.getElem?_cons_zero, Option.some.injEq] at h1 h2
            subst h1
            subst h2
            exact is_step (is_wide HI.out hszW (fun _ h => h)) hkp)
        have HO3 := Lib.hid hown1
        clear hown1 hgrow1 hfA hkp hkp0
        go_wp2_with fail
        refine ⟨⟨k + 1, acc ++ [x], vss ++ [[.int .i64 x.face, .slice a1 l1 c1]], t1, by omega, by go_num, by simp [hal], by simp [hvl], HO3.out, HIS3.out, HR3.out, HF3.out, ?_⟩, by simp [intOf]; omega⟩
        have hg := HGO.out
        rw [rGo_one HW.out, HX.out] at hg
        exact hg
    · obtain rfl : k = cnt := by omega
      obtain ⟨a1, q1, q2, rfl, hq⟩ := own_slice HO.out
      subst hq
      go_wp2_with fail
      go_returns
      refine ⟨[.slice a1 q1 q2], rfl, ?_⟩
      have hg := HGO.out
      rw [Nat.sub_self] at hg
      have hg2 : R = (acc, t) := hg.symm
      rw [hg2]
      refine ⟨⟨a1, q1, q2, rfl, ?_⟩, HR.out, HF.out⟩
      have ho := HO.out
      rw [← hal] at ho ⊢
      exact row_of_own (sh := shTable) ho (hvl.trans hal.symm) (fun i vs y h1 h2 => is_wide (HIS.out i vs y h1 h2) (Nat.le_refl _) (fun u hu => List.mem_cons_of_mem _ hu)) (fun u hu => by
        obtain ⟨h1, _, cs, fz, h2⟩ := own_type ho hu
        exact ⟨h1, cs, _, fz, h2, List.mem_cons_self⟩)

theorem info_Ops : (Tryz.prog.info? 127).map (fun i => (i.zero, i.size, i.bytes)) = some (some (.agg #[.int .i64 0, .int .i64 0, .int .i64 0]), 3, 24) := by kernel_rfl
set_option maxHeartbeats 1600000 in
set_option maxRecDepth 100000 in
theorem severalOps (H : Rd 106 mkA shOp cOp []) (B : List UInt8) (b : Nat) (s : Rst) (W : World) (h : RAt W b B s) :
    Calls Tryz.prog 105 #[.pointer (some ⟨b, 0, none⟩), .func (.func 106) #[] #[]] W fun e W' => ∃ vs, e = .returned (mk1 vs) ∧ (shSlice shOp).Is (SB W.heap.size [127] W') W' vs ((cList cOp).r B s).1 ∧ RAt W' b B ((cList cOp).r B s).2 ∧ KFr b W W' := by
  obtain ⟨i00, hi, hz0, hz1, hz2⟩ := info_parts info_Ops
  have hblt := h.lt
  have hc := rcount_any 4 (by omega) (by omega) B b s W h
  have hcl := rCount_le B 4 s
  obtain ⟨R, hres⟩ : ∃ R, (cList cOp).r B s = R := ⟨_, rfl⟩
  rw [hres]
  have hres2 : rGo (cOp.r B) (rCount B 4 s).1 [] (rCount B 4 s).2 = R := hres
  obtain ⟨⟨cnt, t0⟩, hx⟩ : ∃ r, rCount B 4 s = r := ⟨_, rfl⟩
  rw [hx] at hc hres2 hcl
  simp only at hc hres2 hcl
  have HRES := Lib.hid hres2
  clear h hres hres2 hx
  go_enter Tryz.func105, Tryz.ntmps105
  go_wp2_with (go_at_call 78; refine hc.mono ?_)
  rintro e W1 ⟨rfl, hr, hf⟩
  have HR := Lib.hid hr
  have HF := Lib.hid hf
  clear hr hf hc
  go_wp2_with fail
  go_loopw [5, 8] (fun v i wr => ∃ (k : Nat) (acc : List OpD) (vss : List (List Value)) (t : Rst), k ≤ cnt ∧ i = .int .i64 k ∧ acc.length = k ∧ vss.length = k ∧ wr.ownsRow W.heap.size 127 3 v k vss.flatten ∧ (∀ (i : Nat) (vs : List Value) (x : OpD), vss[i]? = some vs → acc[i]? = some x → shOp.Is (SB W.heap.size [] wr) wr vs x) ∧ RAt wr b B t ∧ KFr b W wr ∧ rGo (cOp.r B) (cnt - k) acc t = R) (fun _ i _ => cnt - (intOf i).toNat)
  case atStart => exact ⟨0, [], [], t0, Nat.zero_le _, rfl, rfl, rfl, World.ownsRow_nil _ _ _ _, fun i _ _ h => by simp at h, HR.out, HF.out, by rw [Nat.sub_zero]; exact HRES.out⟩
  case round =>
    clear HR HF
    obtain ⟨k, acc, vss, t, hk, rfl, hal, hvl, hown, hIs, hr, hf, hgo⟩ := hrel
    obtain ⟨a9, n9, cap9, g0, g1, g2, g3, g4, -⟩ := hr.cells
    have HO := Lib.hid hown
    have HIS := Lib.hid hIs
    have HR := Lib.hid hr
    have HF := Lib.hid hf
    have HGO := Lib.hid hgo
    clear hown hIs hr hf hgo g0 g1 g3 g4
    by_cases hlt : k < cnt
    · have i0 : (k : Int) < (cnt : Int) := by omega
      have hm : cnt - k = (cnt - (k + 1)) + 1 := by omega
      rw [hm] at HGO
      cases hw : t.wrong with
      | true =>
        rw [hw] at g2
        have HW := Lib.hid hw
        clear hw
        go_wp2_with fail
        go_returns
        refine ⟨[.slice none 0 0], rfl, ?_⟩
        have hR := HGO.out
        rw [rGo_bad HW.out] at hR
        rw [← hR]
        exact ⟨⟨none, 0, 0, rfl, Row.nil _ _ _ _⟩, HR.out, HF.out⟩
      | false =>
        rw [hw] at g2
        have HW := Lib.hid hw
        have hH := H B b t wr HR.out
        obtain ⟨⟨x, t1⟩, hx⟩ : ∃ r, cOp.r B t = r := ⟨_, rfl⟩
        rw [hx] at hH
        simp only at hH
        have HX := Lib.hid hx
        clear hw hx
        go_wp2_with (go_at_call 106; refine hH.mono ?_)
        rintro e W2 ⟨vs, rfl, hI, hr2, hf2⟩
        have HI := Lib.hid hI
        obtain rfl := op_is.1 hI
        have HR2 := Lib.hid hr2
        have HF2 := Lib.hid hf2
        have hszW := HF.out.size
        have HO2 := Lib.hid ((own_kfr HO.out hblt hf2).alloc (.cells [.int .i64 x.k, .int .i64 x.a, .int .i64 x.b].toArray 127))
        clear hI hr2 hf2 hH g2
        simp only [mkA]
        go_wp2_with (at_builtin; refine wpList_append_own _ rfl (.tmp 14) (.tmp 18) 59 rfl W.heap.size 127 i00 (.agg #[.int .i64 0, .int .i64 0, .int .i64 0]) 3 24 Tryz.underlying59 hi hz0 hz1 hz2 rfl (by decide) _ k vss.flatten rfl HO2.out ⟨W2.heap.size, 0, none⟩ 1 1 [.int .i64 x.k, .int .i64 x.a, .int .i64 x.b] rfl rfl ?c1 ?c2 ?c3 ?c4 ?c5 ?_)
        case c1 => exact lit_cells W2 [.int .i64 x.k, .int .i64 x.a, .int .i64 x.b].toArray 127
        case c2 => intro u hu; simp only [List.mem_cons, List.not_mem_nil, or_false] at hu; rcases hu with rfl | rfl | rfl <;> rfl
        case c3 => unfold maxLen; omega
        case c4 => omega
        case c5 => have := HF.out.size; have := HF2.out.size; simp; omega
        intro v1 W3 hown1 hgrow1 _
        obtain ⟨q1, q2, rfl⟩ := Joins.ownsRow_form hown1 (by omega)
        have hfl : vss.flatten ++ ([.int .i64 x.k, .int .i64 x.a, .int .i64 x.b] : List Value) = (vss ++ [([.int .i64 x.k, .int .i64 x.a, .int .i64 x.b] : List Value)]).flatten := by rw [List.flatten_append, List.flatten_singleton]
        rw [hfl] at hown1
        have hfA := (HF.out.trans HF2.out).alloc (.cells [.int .i64 x.k, .int .i64 x.a, .int .i64 x.b].toArray 127)
        have HF3 := Lib.hid (hfA.grown hgrow1 HO2.out)
        have HR3 := Lib.hid ((HR2.out.alloc (.cells [.int .i64 x.k, .int .i64 x.a, .int .i64 x.b].toArray 127)).grown hblt hgrow1 HO2.out)
        have hkp : Kp W.heap.size [] W2 W3 := (Kp.alloc _ _ _ _).trans (Kp.grown hgrow1 HO2.out (by decide))
        have hkp0 : Kp W.heap.size [] wr W3 := (Kp.of HF2.out hblt).trans hkp
        have HIS3 := Lib.hid (show ∀ (i : Nat) (vs : List Value) (y : OpD), (vss ++ [[.int .i64 x.k, .int .i64 x.a, .int .i64 x.b]])[i]? = some vs → (acc ++ [x])[i]? = some y → shOp.Is (SB W.heap.size [] W3) W3 vs y by
          intro i us y h1 h2
          rcases Nat.lt_or_ge i k with hi | hi
          · rw [List.getElem?_append_left (by omega)] at h1 h2
            exact is_step (HIS.out i us y h1 h2) hkp0
          · rw [List.getElem?_append_right (by omega)] at h1 h2
            have hi0 : i - k = 0 := by
              have := (List.getElem?_eq_some_iff.1 h1).1
              simp at this; omega
            rw [hvl, hi0] at h1
            rw [hal, hi0] at h2
            simp only [List.getElem?_cons_zero, Option.some.injEq] at h1 h2
            subst h1
            subst h2
            exact is_step (is_wide HI.out hszW (fun _ h => h)) hkp)
        have HO3 := Lib.hid hown1
        clear hown1 hgrow1 hfA hkp hkp0
        go_wp2_with fail
        refine ⟨⟨k + 1, acc ++ [x], vss ++ [[.int .i64 x.k, .int .i64 x.a, .int .i64 x.b]], t1, by omega, by go_num, by simp [hal], by simp [hvl], HO3.out, HIS3.out, HR3.out, HF3.out, ?_⟩, by simp [intOf]; omega⟩
        have hg := HGO.out
        rw [rGo_one HW.out, HX.out] at hg
        exact hg
    · obtain rfl : k = cnt := by omega
      obtain ⟨a1, q1, q2, rfl, hq⟩ := own_slice HO.out
      subst hq
      go_wp2_with fail
      go_returns
      refine ⟨[.slice a1 q1 q2], rfl, ?_⟩
      have hg := HGO.out
      rw [Nat.sub_self] at hg
      have hg2 : R = (acc, t) := hg.symm
      rw [hg2]
      refine ⟨⟨a1, q1, q2, rfl, ?_⟩, HR.out, HF.out⟩
      have ho := HO.out
      rw [← hal] at ho ⊢
      exact row_of_own (sh := shOp) ho (hvl.trans hal.symm) (fun i vs y h1 h2 => is_wide (HIS.out i vs y h1 h2) (Nat.le_refl _) (fun u hu => List.mem_cons_of_mem _ hu)) (fun u hu => by
        obtain ⟨h1, _, cs, fz, h2⟩ := own_type ho hu
        exact ⟨h1, cs, _, fz, h2, List.mem_cons_self⟩)

theorem info_Links : (Tryz.prog.info? 90).map (fun i => (i.zero, i.size, i.bytes)) = some (some (.agg #[.int .i64 0, .int .i64 0, .bool false]), 3, 24) := by kernel_rfl
set_option maxHeartbeats 1600000 in
set_option maxRecDepth 100000 in
theorem severalLinks (H : Rd 87 mkA shLink cLink []) (B : List UInt8) (b : Nat) (s : Rst) (W : World) (h : RAt W b B s) :
    Calls Tryz.prog 86 #[.pointer (some ⟨b, 0, none⟩), .func (.func 87) #[] #[]] W fun e W' => ∃ vs, e = .returned (mk1 vs) ∧ (shSlice shLink).Is (SB W.heap.size [90] W') W' vs ((cList cLink).r B s).1 ∧ RAt W' b B ((cList cLink).r B s).2 ∧ KFr b W W' := by
  obtain ⟨i00, hi, hz0, hz1, hz2⟩ := info_parts info_Links
  have hblt := h.lt
  have hc := rcount_any 4 (by omega) (by omega) B b s W h
  have hcl := rCount_le B 4 s
  obtain ⟨R, hres⟩ : ∃ R, (cList cLink).r B s = R := ⟨_, rfl⟩
  rw [hres]
  have hres2 : rGo (cLink.r B) (rCount B 4 s).1 [] (rCount B 4 s).2 = R := hres
  obtain ⟨⟨cnt, t0⟩, hx⟩ : ∃ r, rCount B 4 s = r := ⟨_, rfl⟩
  rw [hx] at hc hres2 hcl
  simp only at hc hres2 hcl
  have HRES := Lib.hid hres2
  clear h hres hres2 hx
  go_enter Tryz.func86, Tryz.ntmps86
  go_wp2_with (go_at_call 78; refine hc.mono ?_)
  rintro e W1 ⟨rfl, hr, hf⟩
  have HR := Lib.hid hr
  have HF := Lib.hid hf
  clear hr hf hc
  go_wp2_with fail
  go_loopw [5, 8] (fun v i wr => ∃ (k : Nat) (acc : List LinkD) (vss : List (List Value)) (t : Rst), k ≤ cnt ∧ i = .int .i64 k ∧ acc.length = k ∧ vss.length = k ∧ wr.ownsRow W.heap.size 90 3 v k vss.flatten ∧ (∀ (i : Nat) (vs : List Value) (x : LinkD), vss[i]? = some vs → acc[i]? = some x → shLink.Is (SB W.heap.size [] wr) wr vs x) ∧ RAt wr b B t ∧ KFr b W wr ∧ rGo (cLink.r B) (cnt - k) acc t = R) (fun _ i _ => cnt - (intOf i).toNat)
  case atStart => exact ⟨0, [], [], t0, Nat.zero_le _, rfl, rfl, rfl, World.ownsRow_nil _ _ _ _, fun i _ _ h => by simp at h, HR.out, HF.out, by rw [Nat.sub_zero]; exact HRES.out⟩
  case round =>
    clear HR HF
    obtain ⟨k, acc, vss, t, hk, rfl, hal, hvl, hown, hIs, hr, hf, hgo⟩ := hrel
    obtain ⟨a9, n9, cap9, g0, g1, g2, g3, g4, -⟩ := hr.cells
    have HO := Lib.hid hown
    have HIS := Lib.hid hIs
    have HR := Lib.hid hr
    have HF := Lib.hid hf
    have HGO := Lib.hid hgo
    clear hown hIs hr hf hgo g0 g1 g3 g4
    by_cases hlt : k < cnt
    · have i0 : (k : Int) < (cnt : Int) := by omega
      have hm : cnt - k = (cnt - (k + 1)) + 1 := by omega
      rw [hm] at HGO
      cases hw : t.wrong with
      | true =>
        rw [hw] at g2
        have HW := Lib.hid hw
        clear hw
        go_wp2_with fail
        go_returns
        refine ⟨[.slice none 0 0], rfl, ?_⟩
        have hR := HGO.out
        rw [rGo_bad HW.out] at hR
        rw [← hR]
        exact ⟨⟨none, 0, 0, rfl, Row.nil _ _ _ _⟩, HR.out, HF.out⟩
      | false =>
        rw [hw] at g2
        have HW := Lib.hid hw
        have hH := H B b t wr HR.out
        obtain ⟨⟨x, t1⟩, hx⟩ : ∃ r, cLink.r B t = r := ⟨_, rfl⟩
        rw [hx] at hH
        simp only at hH
        have HX := Lib.hid hx
        clear hw hx
        go_wp2_with (go_at_call 87; refine hH.mono ?_)
        rintro e W2 ⟨vs, rfl, hI, hr2, hf2⟩
        have HI := Lib.hid hI
        obtain rfl := link_is.1 hI
        have HR2 := Lib.hid hr2
        have HF2 := Lib.hid hf2
        have hszW := HF.out.size
        have HO2 := Lib.hid ((own_kfr HO.out hblt hf2).alloc (.cells [.int .i64 x.g, .int .i64 x.s, .bool x.b].toArray 90))
        clear hI hr2 hf2 hH g2
        simp only [mkA]
        go_wp2_with (at_builtin; refine wpList_append_own _ rfl (.tmp 14) (.tmp 18) 26 rfl W.heap.size 90 i00 (.agg #[.int .i64 0, .int .i64 0, .bool false]) 3 24 Tryz.underlying26 hi hz0 hz1 hz2 rfl (by decide) _ k vss.flatten rfl HO2.out ⟨W2.heap.size, 0, none⟩ 1 1 [.int .i64 x.g, .int .i64 x.s, .bool x.b] rfl rfl ?c1 ?c2 ?c3 ?c4 ?c5 ?_)
        case c1 => exact lit_cells W2 [.int .i64 x.g, .int .i64 x.s, .bool x.b].toArray 90
        case c2 => intro u hu; simp only [List.mem_cons, List.not_mem_nil, or_false] at hu; rcases hu with rfl | rfl | rfl <;> rfl
        case c3 => unfold maxLen; omega
        case c4 => omega
        case c5 => have := HF.out.size; have := HF2.out.size; simp; omega
        intro v1 W3 hown1 hgrow1 _
        obtain ⟨q1, q2, rfl⟩ := Joins.ownsRow_form hown1 (by omega)
        have hfl : vss.flatten ++ ([.int .i64 x.g, .int .i64 x.s, .bool x.b] : List Value) = (vss ++ [([.int .i64 x.g, .int .i64 x.s, .bool x.b] : List Value)]).flatten := by rw [List.flatten_append, List.flatten_singleton]
        rw [hfl] at hown1
        have hfA := (HF.out.trans HF2.out).alloc (.cells [.int .i64 x.g, .int .i64 x.s, .bool x.b].toArray 90)
        have HF3 := Lib.hid (hfA.grown hgrow1 HO2.out)
        have HR3 := Lib.hid ((HR2.out.alloc (.cells [.int .i64 x.g, .int .i64 x.s, .bool x.b].toArray 90)).grown hblt hgrow1 HO2.out)
        have hkp : Kp W.heap.size [] W2 W3 := (Kp.alloc _ _ _ _).trans (Kp.grown hgrow1 HO2.out (by decide))
        have hkp0 : Kp W.heap.size [] wr W3 := (Kp.of HF2.out hblt).trans hkp
        have HIS3 := Lib.hid (show ∀ (i : Nat) (vs : List Value) (y : LinkD), (vss ++ [[.int .i64 x.g, .int .i64 x.s, .bool x.b]])[i]? = some vs → (acc ++ [x])[i]? = some y → shLink.Is (SB W.heap.size [] W3) W3 vs y by
          intro i us y h1 h2
          rcases Nat.lt_or_ge i k with hi | hi
          · rw [List.getElem?_append_left (by omega)] at h1 h2
            exact is_step (HIS.out i us y h1 h2) hkp0
          · rw [List.getElem?_append_right (by omega)] at h1 h2
            have hi0 : i - k = 0 := by
              have := (List.getElem?_eq_some_iff.1 h1).1
              simp at this; omega
            rw [hvl, hi0] at h1
            rw [hal, hi0] at h2
            simp only [List.getElem?_cons_zero, Option.some.injEq] at h1 h2
            subst h1
            subst h2
            exact is_step (is_wide HI.out hszW (fun _ h => h)) hkp)
        have HO3 := Lib.hid hown1
        clear hown1 hgrow1 hfA hkp hkp0
        go_wp2_with fail
        refine ⟨⟨k + 1, acc ++ [x], vss ++ [[.int .i64 x.g, .int .i64 x.s, .bool x.b]], t1, by omega, by go_num, by simp [hal], by simp [hvl], HO3.out, HIS3.out, HR3.out, HF3.out, ?_⟩, by simp [intOf]; omega⟩
        have hg := HGO.out
        rw [rGo_one HW.out, HX.out] at hg
        exact hg
    · obtain rfl : k = cnt := by omega
      obtain ⟨a1, q1, q2, rfl, hq⟩ := own_slice HO.out
      subst hq
      go_wp2_with fail
      go_returns
      refine ⟨[.slice a1 q1 q2], rfl, ?_⟩
      have hg := HGO.out
      rw [Nat.sub_self] at hg
      have hg2 : R = (acc, t) := hg.symm
      rw [hg2]
      refine ⟨⟨a1, q1, q2, rfl, ?_⟩, HR.out, HF.out⟩
      have ho := HO.out
      rw [← hal] at ho ⊢
      exact row_of_own (sh := shLink) ho (hvl.trans hal.symm) (fun i vs y h1 h2 => is_wide (HIS.out i vs y h1 h2) (Nat.le_refl _) (fun u hu => List.mem_cons_of_mem _ hu)) (fun u hu => by
        obtain ⟨h1, _, cs, fz, h2⟩ := own_type ho hu
        exact ⟨h1, cs, _, fz, h2, List.mem_cons_self⟩)

theorem info_Jobs : (Tryz.prog.info? 78).map (fun i => (i.zero, i.size, i.bytes)) = some (some (.agg #[.int .i64 0, .int .i64 0, .int .i64 0]), 3, 24) := by kernel_rfl
set_option maxHeartbeats 1600000 in
set_option maxRecDepth 100000 in
theorem severalJobs (H : Rd 89 mkA shJob cJob []) (B : List UInt8) (b : Nat) (s : Rst) (W : World) (h : RAt W b B s) :
    Calls Tryz.prog 88 #[.pointer (some ⟨b, 0, none⟩), .func (.func 89) #[] #[]] W fun e W' => ∃ vs, e = .returned (mk1 vs) ∧ (shSlice shJob).Is (SB W.heap.size [78] W') W' vs ((cList cJob).r B s).1 ∧ RAt W' b B ((cList cJob).r B s).2 ∧ KFr b W W' := by
  obtain ⟨i00, hi, hz0, hz1, hz2⟩ := info_parts info_Jobs
  have hblt := h.lt
  have hc := rcount_any 4 (by omega) (by omega) B b s W h
  have hcl := rCount_le B 4 s
  obtain ⟨R, hres⟩ : ∃ R, (cList cJob).r B s = R := ⟨_, rfl⟩
  rw [hres]
  have hres2 : rGo (cJob.r B) (rCount B 4 s).1 [] (rCount B 4 s).2 = R := hres
  obtain ⟨⟨cnt, t0⟩, hx⟩ : ∃ r, rCount B 4 s = r := ⟨_, rfl⟩
  rw [hx] at hc hres2 hcl
  simp only at hc hres2 hcl
  have HRES := Lib.hid hres2
  clear h hres hres2 hx
  go_enter Tryz.func88, Tryz.ntmps88
  go_wp2_with (go_at_call 78; refine hc.mono ?_)
  rintro e W1 ⟨rfl, hr, hf⟩
  have HR := Lib.hid hr
  have HF := Lib.hid hf
  clear hr hf hc
  go_wp2_with fail
  go_loopw [5, 8] (fun v i wr => ∃ (k : Nat) (acc : List JobD) (vss : List (List Value)) (t : Rst), k ≤ cnt ∧ i = .int .i64 k ∧ acc.length = k ∧ vss.length = k ∧ wr.ownsRow W.heap.size 78 3 v k vss.flatten ∧ (∀ (i : Nat) (vs : List Value) (x : JobD), vss[i]? = some vs → acc[i]? = some x → shJob.Is (SB W.heap.size [] wr) wr vs x) ∧ RAt wr b B t ∧ KFr b W wr ∧ rGo (cJob.r B) (cnt - k) acc t = R) (fun _ i _ => cnt - (intOf i).toNat)
  case atStart => exact ⟨0, [], [], t0, Nat.zero_le _, rfl, rfl, rfl, World.ownsRow_nil _ _ _ _, fun i _ _ h => by simp at h, HR.out, HF.out, by rw [Nat.sub_zero]; exact HRES.out⟩
  case round =>
    clear HR HF
    obtain ⟨k, acc, vss, t, hk, rfl, hal, hvl, hown, hIs, hr, hf, hgo⟩ := hrel
    obtain ⟨a9, n9, cap9, g0, g1, g2, g3, g4, -⟩ := hr.cells
    have HO := Lib.hid hown
    have HIS := Lib.hid hIs
    have HR := Lib.hid hr
    have HF := Lib.hid hf
    have HGO := Lib.hid hgo
    clear hown hIs hr hf hgo g0 g1 g3 g4
    by_cases hlt : k < cnt
    · have i0 : (k : Int) < (cnt : Int) := by omega
      have hm : cnt - k = (cnt - (k + 1)) + 1 := by omega
      rw [hm] at HGO
      cases hw : t.wrong with
      | true =>
        rw [hw] at g2
        have HW := Lib.hid hw
        clear hw
        go_wp2_with fail
        go_returns
        refine ⟨[.slice none 0 0], rfl, ?_⟩
        have hR := HGO.out
        rw [rGo_bad HW.out] at hR
        rw [← hR]
        exact ⟨⟨none, 0, 0, rfl, Row.nil _ _ _ _⟩, HR.out, HF.out⟩
      | false =>
        rw [hw] at g2
        have HW := Lib.hid hw
        have hH := H B b t wr HR.out
        obtain ⟨⟨x, t1⟩, hx⟩ : ∃ r, cJob.r B t = r := ⟨_, rfl⟩
        rw [hx] at hH
        simp only at hH
        have HX := Lib.hid hx
        clear hw hx
        go_wp2_with (go_at_call 89; refine hH.mono ?_)
        rintro e W2 ⟨vs, rfl, hI, hr2, hf2⟩
        have HI := Lib.hid hI
        obtain rfl := job_is.1 hI
        have HR2 := Lib.hid hr2
        have HF2 := Lib.hid hf2
        have hszW := HF.out.size
        have HO2 := Lib.hid ((own_kfr HO.out hblt hf2).alloc (.cells [.int .i64 x.c, .int .i64 x.e, .int .i64 x.f].toArray 78))
        clear hI hr2 hf2 hH g2
        simp only [mkA]
        go_wp2_with (at_builtin; refine wpList_append_own _ rfl (.tmp 14) (.tmp 18) 27 rfl W.heap.size 78 i00 (.agg #[.int .i64 0, .int .i64 0, .int .i64 0]) 3 24 Tryz.underlying27 hi hz0 hz1 hz2 rfl (by decide) _ k vss.flatten rfl HO2.out ⟨W2.heap.size, 0, none⟩ 1 1 [.int .i64 x.c, .int .i64 x.e, .int .i64 x.f] rfl rfl ?c1 ?c2 ?c3 ?c4 ?c5 ?_)
        case c1 => exact lit_cells W2 [.int .i64 x.c, .int .i64 x.e, .int .i64 x.f].toArray 78
        case c2 => intro u hu; simp only [List.mem_cons, List.not_mem_nil, or_false] at hu; rcases hu with rfl | rfl | rfl <;> rfl
        case c3 => unfold maxLen; omega
        case c4 => omega
        case c5 => have := HF.out.size; have := HF2.out.size; simp; omega
        intro v1 W3 hown1 hgrow1 _
        obtain ⟨q1, q2, rfl⟩ := Joins.ownsRow_form hown1 (by omega)
        have hfl : vss.flatten ++ ([.int .i64 x.c, .int .i64 x.e, .int .i64 x.f] : List Value) = (vss ++ [([.int .i64 x.c, .int .i64 x.e, .int .i64 x.f] : List Value)]).flatten := by rw [List.flatten_append, List.flatten_singleton]
        rw [hfl] at hown1
        have hfA := (HF.out.trans HF2.out).alloc (.cells [.int .i64 x.c, .int .i64 x.e, .int .i64 x.f].toArray 78)
        have HF3 := Lib.hid (hfA.grown hgrow1 HO2.out)
        have HR3 := Lib.hid ((HR2.out.alloc (.cells [.int .i64 x.c, .int .i64 x.e, .int .i64 x.f].toArray 78)).grown hblt hgrow1 HO2.out)
        have hkp : Kp W.heap.size [] W2 W3 := (Kp.alloc _ _ _ _).trans (Kp.grown hgrow1 HO2.out (by decide))
        have hkp0 : Kp W.heap.size [] wr W3 := (Kp.of HF2.out hblt).trans hkp
        have HIS3 := Lib.hid (show ∀ (i : Nat) (vs : List Value) (y : JobD), (vss ++ [[.int .i64 x.c, .int .i64 x.e, .int .i64 x.f]])[i]? = some vs → (acc ++ [x])[i]? = some y → shJob.Is (SB W.heap.size [] W3) W3 vs y by
          intro i us y h1 h2
          rcases Nat.lt_or_ge i k with hi | hi
          · rw [List.getElem?_append_left (by omega)] at h1 h2
            exact is_step (HIS.out i us y h1 h2) hkp0
          · rw [List.getElem?_append_right (by omega)] at h1 h2
            have hi0 : i - k = 0 := by
              have := (List.getElem?_eq_some_iff.1 h1).1
              simp at this; omega
            rw [hvl, hi0] at h1
            rw [hal, hi0] at h2
            simp only [List.getElem?_cons_zero, Option.some.injEq] at h1 h2
            subst h1
            subst h2
            exact is_step (is_wide HI.out hszW (fun _ h => h)) hkp)
        have HO3 := Lib.hid hown1
        clear hown1 hgrow1 hfA hkp hkp0
        go_wp2_with fail
        refine ⟨⟨k + 1, acc ++ [x], vss ++ [[.int .i64 x.c, .int .i64 x.e, .int .i64 x.f]], t1, by omega, by go_num, by simp [hal], by simp [hvl], HO3.out, HIS3.out, HR3.out, HF3.out, ?_⟩, by simp [intOf]; omega⟩
        have hg := HGO.out
        rw [rGo_one HW.out, HX.out] at hg
        exact hg
    · obtain rfl : k = cnt := by omega
      obtain ⟨a1, q1, q2, rfl, hq⟩ := own_slice HO.out
      subst hq
      go_wp2_with fail
      go_returns
      refine ⟨[.slice a1 q1 q2], rfl, ?_⟩
      have hg := HGO.out
      rw [Nat.sub_self] at hg
      have hg2 : R = (acc, t) := hg.symm
      rw [hg2]
      refine ⟨⟨a1, q1, q2, rfl, ?_⟩, HR.out, HF.out⟩
      have ho := HO.out
      rw [← hal] at ho ⊢
      exact row_of_own (sh := shJob) ho (hvl.trans hal.symm) (fun i vs y h1 h2 => is_wide (HIS.out i vs y h1 h2) (Nat.le_refl _) (fun u hu => List.mem_cons_of_mem _ hu)) (fun u hu => by
        obtain ⟨h1, _, cs, fz, h2⟩ := own_type ho hu
        exact ⟨h1, cs, _, fz, h2, List.mem_cons_self⟩)

theorem info_Descs : (Tryz.prog.info? 56).map (fun i => (i.zero, i.size, i.bytes)) = some (some (.agg #[.int .i64 0, .string ⟨#[]⟩, .slice none 0 0, .slice none 0 0, .slice none 0 0, .slice none 0 0]), 6, 120) := by kernel_rfl
set_option maxHeartbeats 1600000 in
set_option maxRecDepth 100000 in
theorem severalDescs (H : Rd 82 mkA shDesc cDesc [3, 9, 58]) (B : List UInt8) (b : Nat) (s : Rst) (W : World) (h : RAt W b B s) :
    Calls Tryz.prog 81 #[.pointer (some ⟨b, 0, none⟩), .func (.func 82) #[] #[]] W fun e W' => ∃ vs, e = .returned (mk1 vs) ∧ (shSlice shDesc).Is (SB W.heap.size [56, 3, 9, 58] W') W' vs ((cList cDesc).r B s).1 ∧ RAt W' b B ((cList cDesc).r B s).2 ∧ KFr b W W' := by
  obtain ⟨i00, hi, hz0, hz1, hz2⟩ := info_parts info_Descs
  have hblt := h.lt
  have hc := rcount_any 4 (by omega) (by omega) B b s W h
  have hcl := rCount_le B 4 s
  obtain ⟨R, hres⟩ : ∃ R, (cList cDesc).r B s = R := ⟨_, rfl⟩
  rw [hres]
  have hres2 : rGo (cDesc.r B) (rCount B 4 s).1 [] (rCount B 4 s).2 = R := hres
  obtain ⟨⟨cnt, t0⟩, hx⟩ : ∃ r, rCount B 4 s = r := ⟨_, rfl⟩
  rw [hx] at hc hres2 hcl
  simp only at hc hres2 hcl
  have HRES := Lib.hid hres2
  clear h hres hres2 hx
  go_enter Tryz.func81, Tryz.ntmps81
  go_wp2_with (go_at_call 78; refine hc.mono ?_)
  rintro e W1 ⟨rfl, hr, hf⟩
  have HR := Lib.hid hr
  have HF := Lib.hid hf
  clear hr hf hc
  go_wp2_with fail
  go_loopw [5, 8] (fun v i wr => ∃ (k : Nat) (acc : List DescD) (vss : List (List Value)) (t : Rst), k ≤ cnt ∧ i = .int .i64 k ∧ acc.length = k ∧ vss.length = k ∧ wr.ownsRow W.heap.size 56 6 v k vss.flatten ∧ (∀ (i : Nat) (vs : List Value) (x : DescD), vss[i]? = some vs → acc[i]? = some x → shDesc.Is (SB W.heap.size [3, 9, 58] wr) wr vs x) ∧ RAt wr b B t ∧ KFr b W wr ∧ rGo (cDesc.r B) (cnt - k) acc t = R) (fun _ i _ => cnt - (intOf i).toNat)
  case atStart => exact ⟨0, [], [], t0, Nat.zero_le _, rfl, rfl, rfl, World.ownsRow_nil _ _ _ _, fun i _ _ h => by simp at h, HR.out, HF.out, by rw [Nat.sub_zero]; exact HRES.out⟩
  case round =>
    clear HR HF
    obtain ⟨k, acc, vss, t, hk, rfl, hal, hvl, hown, hIs, hr, hf, hgo⟩ := hrel
    obtain ⟨a9, n9, cap9, g0, g1, g2, g3, g4, -⟩ := hr.cells
    have HO := Lib.hid hown
    have HIS := Lib.hid hIs
    have HR := Lib.hid hr
    have HF := Lib.hid hf
    have HGO := Lib.hid hgo
    clear hown hIs hr hf hgo g0 g1 g3 g4
    by_cases hlt : k < cnt
    · have i0 : (k : Int) < (cnt : Int) := by omega
      have hm : cnt - k = (cnt - (k + 1)) + 1 := by omega
      rw [hm] at HGO
      cases hw : t.wrong with
      | true =>
        rw [hw] at g2
        have HW := Lib.hid hw
        clear hw
        go_wp2_with fail
        go_returns
        refine ⟨[.slice none 0 0], rfl, ?_⟩
        have hR := HGO.out
        rw [rGo_bad HW.out] at hR
        rw [← hR]
        exact ⟨⟨none, 0, 0, rfl, Row.nil _ _ _ _⟩, HR.out, HF.out⟩
      | false =>
        rw [hw] at g2
        have HW := Lib.hid hw
        have hH := H B b t wr HR.out
        obtain ⟨⟨x, t1⟩, hx⟩ : ∃ r, cDesc.r B t = r := ⟨_, rfl⟩
        rw [hx] at hH
        simp only at hH
        have HX := Lib.hid hx
        clear hw hx
        go_wp2_with (go_at_call 82; refine hH.mono ?_)
        rintro e W2 ⟨vs, rfl, hI, hr2, hf2⟩
        have HI := Lib.hid hI
        obtain ⟨a2, l2, c2, a3, l3, c3, a4, l4, c4, a5, l5, c5, rfl, h2, h3, h4, h5⟩ := desc_is.1 hI
        have HR2 := Lib.hid hr2
        have HF2 := Lib.hid hf2
        have hszW := HF.out.size
        have HO2 := Lib.hid ((own_kfr HO.out hblt hf2).alloc (.cells [.int .i64 x.base, .string x.fields, .slice a2 l2 c2, .slice a3 l3 c3, .slice a4 l4 c4, .slice a5 l5 c5].toArray 56))
        clear hI hr2 hf2 hH g2 h2 h3 h4 h5
        simp only [mkA]
        go_wp2_with (at_builtin; refine wpList_append_own _ rfl (.tmp 14) (.tmp 18) 23 rfl W.heap.size 56 i00 (.agg #[.int .i64 0, .string ⟨#[]⟩, .slice none 0 0, .slice none 0 0, .slice none 0 0, .slice none 0 0]) 6 120 Tryz.underlying23 hi hz0 hz1 hz2 rfl (by decide) _ k vss.flatten rfl HO2.out ⟨W2.heap.size, 0, none⟩ 1 1 [.int .i64 x.base, .string x.fields, .slice a2 l2 c2, .slice a3 l3 c3, .slice a4 l4 c4, .slice a5 l5 c5] rfl rfl ?c1 ?c2 ?c3 ?c4 ?c5 ?_)
        case c1 => exact lit_cells W2 [.int .i64 x.base, .string x.fields, .slice a2 l2 c2, .slice a3 l3 c3, .slice a4 l4 c4, .slice a5 l5 c5].toArray 56
        case c2 => intro u hu; simp only [List.mem_cons, List.not_mem_nil, or_false] at hu; rcases hu with rfl | rfl | rfl | rfl | rfl | rfl <;> rfl
        case c3 => unfold maxLen; omega
        case c4 => omega
        case c5 => have := HF.out.size; have := HF2.out.size; simp; omega
        intro v1 W3 hown1 hgrow1 _
        obtain ⟨q1, q2, rfl⟩ := Joins.ownsRow_form hown1 (by omega)
        have hfl : vss.flatten ++ ([.int .i64 x.base, .string x.fields, .slice a2 l2 c2, .slice a3 l3 c3, .slice a4 l4 c4, .slice a5 l5 c5] : List Value) = (vss ++ [([.int .i64 x.base, .string x.fields, .slice a2 l2 c2, .slice a3 l3 c3, .slice a4 l4 c4, .slice a5 l5 c5] : List Value)]).flatten := by rw [List.flatten_append, List.flatten_singleton]
        rw [hfl] at hown1
        have hfA := (HF.out.trans HF2.out).alloc (.cells [.int .i64 x.base, .string x.fields, .slice a2 l2 c2, .slice a3 l3 c3, .slice a4 l4 c4, .slice a5 l5 c5].toArray 56)
        have HF3 := Lib.hid (hfA.grown hgrow1 HO2.out)
        have HR3 := Lib.hid ((HR2.out.alloc (.cells [.int .i64 x.base, .string x.fields, .slice a2 l2 c2, .slice a3 l3 c3, .slice a4 l4 c4, .slice a5 l5 c5].toArray 56)).grown hblt hgrow1 HO2.out)
        have hkp : Kp W.heap.size [3, 9, 58] W2 W3 := (Kp.alloc _ _ _ _).trans (Kp.grown hgrow1 HO2.out (by decide))
        have hkp0 : Kp W.heap.size [3, 9, 58] wr W3 := (Kp.of HF2.out hblt).trans hkp
        have HIS3 := Lib.hid (show ∀ (i : Nat) (vs : List Value) (y : DescD), (vss ++ [[.int .i64 x.base, .string x.fields, .slice a2 l2 c2, .slice a3 l3 c3, .slice a4 l4 c4, .slice a5 l5 c5]])[i]? = some vs → (acc ++ [x])[i]? = some y → shDesc.Is (SB W.heap.size [3, 9, 58] W3) W3 vs y by
          intro i us y h1 h2
          rcases Nat.lt_or_ge i k with hi | hi
          · rw [List.getElem?_append_left (by omega)] at h1 h2
            exact is_step (HIS.out i us y h1 h2) hkp0
          · rw [List.getElem?_append_right (by omega)] at h1 h2
            have hi0 : i - k = 0 := by
              have := (List.getElem?_eq_some_iff.1 h1).1
              simp at this; omega
            rw [hvl, hi0] at h1
            rw [hal, hi0] at h2
            simp only [List.getElem?_cons_zero, Option.some.injEq] at h1 h2
            subst h1
            subst h2
            exact is_step (is_wide HI.out hszW (fun _ h => h)) hkp)
        have HO3 := Lib.hid hown1
        clear hown1 hgrow1 hfA hkp hkp0
        go_wp2_with fail
        refine ⟨⟨k + 1, acc ++ [x], vss ++ [[.int .i64 x.base, .string x.fields, .slice a2 l2 c2, .slice a3 l3 c3, .slice a4 l4 c4, .slice a5 l5 c5]], t1, by omega, by go_num, by simp [hal], by simp [hvl], HO3.out, HIS3.out, HR3.out, HF3.out, ?_⟩, by simp [intOf]; omega⟩
        have hg := HGO.out
        rw [rGo_one HW.out, HX.out] at hg
        exact hg
    · obtain rfl : k = cnt := by omega
      obtain ⟨a1, q1, q2, rfl, hq⟩ := own_slice HO.out
      subst hq
      go_wp2_with fail
      go_returns
      refine ⟨[.slice a1 q1 q2], rfl, ?_⟩
      have hg := HGO.out
      rw [Nat.sub_self] at hg
      have hg2 : R = (acc, t) := hg.symm
      rw [hg2]
      refine ⟨⟨a1, q1, q2, rfl, ?_⟩, HR.out, HF.out⟩
      have ho := HO.out
      rw [← hal] at ho ⊢
      exact row_of_own (sh := shDesc) ho (hvl.trans hal.symm) (fun i vs y h1 h2 => is_wide (HIS.out i vs y h1 h2) (Nat.le_refl _) (fun u hu => List.mem_cons_of_mem _ hu)) (fun u hu => by
        obtain ⟨h1, _, cs, fz, h2⟩ := own_type ho hu
        exact ⟨h1, cs, _, fz, h2, List.mem_cons_self⟩)

theorem info_Codes : (Tryz.prog.info? 61).map (fun i => (i.zero, i.size, i.bytes)) = some (some (.agg #[.int .i64 0, .string ⟨#[]⟩, .string ⟨#[]⟩, .bool false, .int .i64 0, .slice none 0 0]), 6, 80) := by kernel_rfl
set_option maxHeartbeats 1600000 in
set_option maxRecDepth 100000 in
theorem severalCodes (H : Rd 84 mkA shCode cCode [127]) (B : List UInt8) (b : Nat) (s : Rst) (W : World) (h : RAt W b B s) :
    Calls Tryz.prog 83 #[.pointer (some ⟨b, 0, none⟩), .func (.func 84) #[] #[]] W fun e W' => ∃ vs, e = .returned (mk1 vs) ∧ (shSlice shCode).Is (SB W.heap.size [61, 127] W') W' vs ((cList cCode).r B s).1 ∧ RAt W' b B ((cList cCode).r B s).2 ∧ KFr b W W' := by
  obtain ⟨i00, hi, hz0, hz1, hz2⟩ := info_parts info_Codes
  have hblt := h.lt
  have hc := rcount_any 4 (by omega) (by omega) B b s W h
  have hcl := rCount_le B 4 s
  obtain ⟨R, hres⟩ : ∃ R, (cList cCode).r B s = R := ⟨_, rfl⟩
  rw [hres]
  have hres2 : rGo (cCode.r B) (rCount B 4 s).1 [] (rCount B 4 s).2 = R := hres
  obtain ⟨⟨cnt, t0⟩, hx⟩ : ∃ r, rCount B 4 s = r := ⟨_, rfl⟩
  rw [hx] at hc hres2 hcl
  simp only at hc hres2 hcl
  have HRES := Lib.hid hres2
  clear h hres hres2 hx
  go_enter Tryz.func83, Tryz.ntmps83
  go_wp2_with (go_at_call 78; refine hc.mono ?_)
  rintro e W1 ⟨rfl, hr, hf⟩
  have HR := Lib.hid hr
  have HF := Lib.hid hf
  clear hr hf hc
  go_wp2_with fail
  go_loopw [5, 8] (fun v i wr => ∃ (k : Nat) (acc : List CodeD) (vss : List (List Value)) (t : Rst), k ≤ cnt ∧ i = .int .i64 k ∧ acc.length = k ∧ vss.length = k ∧ wr.ownsRow W.heap.size 61 6 v k vss.flatten ∧ (∀ (i : Nat) (vs : List Value) (x : CodeD), vss[i]? = some vs → acc[i]? = some x → shCode.Is (SB W.heap.size [127] wr) wr vs x) ∧ RAt wr b B t ∧ KFr b W wr ∧ rGo (cCode.r B) (cnt - k) acc t = R) (fun _ i _ => cnt - (intOf i).toNat)
  case atStart => exact ⟨0, [], [], t0, Nat.zero_le _, rfl, rfl, rfl, World.ownsRow_nil _ _ _ _, fun i _ _ h => by simp at h, HR.out, HF.out, by rw [Nat.sub_zero]; exact HRES.out⟩
  case round =>
    clear HR HF
    obtain ⟨k, acc, vss, t, hk, rfl, hal, hvl, hown, hIs, hr, hf, hgo⟩ := hrel
    obtain ⟨a9, n9, cap9, g0, g1, g2, g3, g4, -⟩ := hr.cells
    have HO := Lib.hid hown
    have HIS := Lib.hid hIs
    have HR := Lib.hid hr
    have HF := Lib.hid hf
    have HGO := Lib.hid hgo
    clear hown hIs hr hf hgo g0 g1 g3 g4
    by_cases hlt : k < cnt
    · have i0 : (k : Int) < (cnt : Int) := by omega
      have hm : cnt - k = (cnt - (k + 1)) + 1 := by omega
      rw [hm] at HGO
      cases hw : t.wrong with
      | true =>
        rw [hw] at g2
        have HW := Lib.hid hw
        clear hw
        go_wp2_with fail
        go_returns
        refine ⟨[.slice none 0 0], rfl, ?_⟩
        have hR := HGO.out
        rw [rGo_bad HW.out] at hR
        rw [← hR]
        exact ⟨⟨none, 0, 0, rfl, Row.nil _ _ _ _⟩, HR.out, HF.out⟩
      | false =>
        rw [hw] at g2
        have HW := Lib.hid hw
        have hH := H B b t wr HR.out
        obtain ⟨⟨x, t1⟩, hx⟩ : ∃ r, cCode.r B t = r := ⟨_, rfl⟩
        rw [hx] at hH
        simp only at hH
        have HX := Lib.hid hx
        clear hw hx
        go_wp2_with (go_at_call 84; refine hH.mono ?_)
        rintro e W2 ⟨vs, rfl, hI, hr2, hf2⟩
        have HI := Lib.hid hI
        obtain ⟨a5, l5, c5, rfl, h5⟩ := code_is.1 hI
        have HR2 := Lib.hid hr2
        have HF2 := Lib.hid hf2
        have hszW := HF.out.size
        have HO2 := Lib.hid ((own_kfr HO.out hblt hf2).alloc (.cells [.int .i64 x.cls, .string x.params, .string x.locals, .bool x.ret, .int .i64 x.stack, .slice a5 l5 c5].toArray 61))
        clear hI hr2 hf2 hH g2 h5
        simp only [mkA]
        go_wp2_with (at_builtin; refine wpList_append_own _ rfl (.tmp 14) (.tmp 18) 24 rfl W.heap.size 61 i00 (.agg #[.int .i64 0, .string ⟨#[]⟩, .string ⟨#[]⟩, .bool false, .int .i64 0, .slice none 0 0]) 6 80 Tryz.underlying24 hi hz0 hz1 hz2 rfl (by decide) _ k vss.flatten rfl HO2.out ⟨W2.heap.size, 0, none⟩ 1 1 [.int .i64 x.cls, .string x.params, .string x.locals, .bool x.ret, .int .i64 x.stack, .slice a5 l5 c5] rfl rfl ?c1 ?c2 ?c3 ?c4 ?c5 ?_)
        case c1 => exact lit_cells W2 [.int .i64 x.cls, .string x.params, .string x.locals, .bool x.ret, .int .i64 x.stack, .slice a5 l5 c5].toArray 61
        case c2 => intro u hu; simp only [List.mem_cons, List.not_mem_nil, or_false] at hu; rcases hu with rfl | rfl | rfl | rfl | rfl | rfl <;> rfl
        case c3 => unfold maxLen; omega
        case c4 => omega
        case c5 => have := HF.out.size; have := HF2.out.size; simp; omega
        intro v1 W3 hown1 hgrow1 _
        obtain ⟨q1, q2, rfl⟩ := Joins.ownsRow_form hown1 (by omega)
        have hfl : vss.flatten ++ ([.int .i64 x.cls, .string x.params, .string x.locals, .bool x.ret, .int .i64 x.stack, .slice a5 l5 c5] : List Value) = (vss ++ [([.int .i64 x.cls, .string x.params, .string x.locals, .bool x.ret, .int .i64 x.stack, .slice a5 l5 c5] : List Value)]).flatten := by rw [List.flatten_append, List.flatten_singleton]
        rw [hfl] at hown1
        have hfA := (HF.out.trans HF2.out).alloc (.cells [.int .i64 x.cls, .string x.params, .string x.locals, .bool x.ret, .int .i64 x.stack, .slice a5 l5 c5].toArray 61)
        have HF3 := Lib.hid (hfA.grown hgrow1 HO2.out)
        have HR3 := Lib.hid ((HR2.out.alloc (.cells [.int .i64 x.cls, .string x.params, .string x.locals, .bool x.ret, .int .i64 x.stack, .slice a5 l5 c5].toArray 61)).grown hblt hgrow1 HO2.out)
        have hkp : Kp W.heap.size [127] W2 W3 := (Kp.alloc _ _ _ _).trans (Kp.grown hgrow1 HO2.out (by decide))
        have hkp0 : Kp W.heap.size [127] wr W3 := (Kp.of HF2.out hblt).trans hkp
        have HIS3 := Lib.hid (show ∀ (i : Nat) (vs : List Value) (y : CodeD), (vss ++ [[.int .i64 x.cls, .string x.params, .string x.locals, .bool x.ret, .int .i64 x.stack, .slice a5 l5 c5]])[i]? = some vs → (acc ++ [x])[i]? = some y → shCode.Is (SB W.heap.size [127] W3) W3 vs y by
          intro i us y h1 h2
          rcases Nat.lt_or_ge i k with hi | hi
          · rw [List.getElem?_append_left (by omega)] at h1 h2
            exact is_step (HIS.out i us y h1 h2) hkp0
          · rw [List.getElem?_append_right (by omega)] at h1 h2
            have hi0 : i - k = 0 := by
              have := (List.getElem?_eq_some_iff.1 h1).1
              simp at this; omega
            rw [hvl, hi0] at h1
            rw [hal, hi0] at h2
            simp only [List.getElem?_cons_zero, Option.some.injEq] at h1 h2
            subst h1
            subst h2
            exact is_step (is_wide HI.out hszW (fun _ h => h)) hkp)
        have HO3 := Lib.hid hown1
        clear hown1 hgrow1 hfA hkp hkp0
        go_wp2_with fail
        refine ⟨⟨k + 1, acc ++ [x], vss ++ [[.int .i64 x.cls, .string x.params, .string x.locals, .bool x.ret, .int .i64 x.stack, .slice a5 l5 c5]], t1, by omega, by go_num, by simp [hal], by simp [hvl], HO3.out, HIS3.out, HR3.out, HF3.out, ?_⟩, by simp [intOf]; omega⟩
        have hg := HGO.out
        rw [rGo_one HW.out, HX.out] at hg
        exact hg
    · obtain rfl : k = cnt := by omega
      obtain ⟨a1, q1, q2, rfl, hq⟩ := own_slice HO.out
      subst hq
      go_wp2_with fail
      go_returns
      refine ⟨[.slice a1 q1 q2], rfl, ?_⟩
      have hg := HGO.out
      rw [Nat.sub_self] at hg
      have hg2 : R = (acc, t) := hg.symm
      rw [hg2]
      refine ⟨⟨a1, q1, q2, rfl, ?_⟩, HR.out, HF.out⟩
      have ho := HO.out
      rw [← hal] at ho ⊢
      exact row_of_own (sh := shCode) ho (hvl.trans hal.symm) (fun i vs y h1 h2 => is_wide (HIS.out i vs y h1 h2) (Nat.le_refl _) (fun u hu => List.mem_cons_of_mem _ hu)) (fun u hu => by
        obtain ⟨h1, _, cs, fz, h2⟩ := own_type ho hu
        exact ⟨h1, cs, _, fz, h2, List.mem_cons_self⟩)
end Go.Proofs.YtoaohoeghlidaaaGreatDoor
