/-
  What Lay, and the document's, answered, as the law goes on with it.
-/
import Derived.Test.YtoaohoeghlidaaaGreatDoorBack
import Derived.Test.YtoaohoeghlidaaaGreatDoorVLay
import Derived.Test.YtoaohoeghlidaaaGreatDoorLend
import Derived.Test.YtoaohoeghlidaaaGreatDoorOver
import Derived.OrdersHeld
import Derived.Test.YtoaohoeghlidaaaGreatDoorNeI
namespace Go.Proofs.YtoaohoeghlidaaaGreatDoor
open Go.ChangeShapes Go.WideShapes Go.ChangeAt Go.RowKit

section
variable {P : Program} {ops : Array Oper} {S : World → Prop}
theorem wpList_load_row_g {rest : List Oper} {o : Oper} {a : Act} {w : World} {Q : Exit → Act → World → Prop} (hw : Region.wanted o (yielded ops a.tmps) = true) (ty : TypeId) (x : Operand) (ho : o.op = .load ty x)
    (g : Nat) (hx : a.eval x = .pointer (some ⟨g, 0, none⟩)) (t : TypeId) (cs : Array Value) (fr : Nat × Nat) (d : TypeDesc) (hg : w.heap[g]? = some (.cells cs t fr))
    (hu : P.underlying ty = some d) (hd : (match d with | .struct _ | .array _ _ => true | _ => false) = true) (hi : (P.info? ty).map (·.size) = some cs.size)
    (h : wpList P ops Q rest (a.put o.dst (.agg cs)) w) : wpList P ops Q (o :: rest) a w :=
  wpList_step fun K hK => by simp only [hw, if_true]; exact wp_load_row ty x ho g hx t cs fr d hg hu hd hi (hK _ _ h)
theorem yields_load_row {o : Oper} {a : Act} (hw : Region.wanted o (yielded ops a.tmps) = true) (ty : TypeId) (x : Operand) (ho : o.op = .load ty x)
    (g : Nat) (hx : a.eval x = .pointer (some ⟨g, 0, none⟩)) (t : TypeId) (cs : Array Value) (fr : Nat × Nat) (d : TypeDesc) (hg : ∀ w, S w → w.heap[g]? = some (.cells cs t fr))
    (hu : P.underlying ty = some d) (hd : (match d with | .struct _ | .array _ _ => true | _ => false) = true) (hi : (P.info? ty).map (·.size) = some cs.size) : YieldsIf P ops S o (.agg cs) a :=
  .inl ⟨hw, fun w hS => by
    unfold execOp
    simp only [ho, hx, Instr.loadAt, Instr.sureAddr, Sem.run_bind, Sem.run_pure, Result.andThen_ok, run_loadVar_row w g t ty cs fr d (hg w hS) hu hd hi]⟩
end

set_option maxHeartbeats 1600000 in
set_option maxRecDepth 100000 in
theorem over_wide (W : World) (lo g n cap : Nat) (xs : List Value) (hown : W.ownsRow lo 5 1 (.slice (some ⟨g, 0, none⟩) n cap) n xs) (hn : n ≤ 100000000000000) :
    Calls Tryz.prog 15 #[.slice (some ⟨g, 0, none⟩) n cap] W fun e W' => e = .returned (.tuple #[]) ∧ KFr g W W' := by
  obtain ⟨i00, hi, hz0, hz1, hz2⟩ := info_parts info5
  obtain ⟨hlo, hgs, _⟩ := own_type hown (k := g) rfl
  have HO := Lib.hid hown
  clear hown
  go_enter Tryz.func15, Tryz.ntmps15
  go_wp2_with fail
  go_loopw [2] (fun i wr => ∃ (k : Nat) (ys : List Value), k ≤ n ∧ i = .int .i64 k ∧ wr.ownsRow lo 5 1 (.slice (some ⟨g, 0, none⟩) n cap) n ys ∧ KFr g W wr) (fun i _ => n - (intOf i).toNat)
  case atStart => exact ⟨0, xs, Nat.zero_le _, rfl, HO.out, KFr.refl g W⟩
  case round =>
    obtain ⟨k, ys, hk, rfl, ho, hf⟩ := hrel
    have HOR := Lib.hid ho
    have HFR := Lib.hid hf
    by_cases hlt : k < n
    · have i0 : (k : Int) < (n : Int) := by omega
      have i1 : (0 : Int) ≤ (k : Int) := by omega
      obtain ⟨u, hu⟩ : ∃ u, wr.cell? ⟨g, k, none⟩ = some u := by
        rw [ho.cellAt k (by omega)]
        have := ho.1
        exact ⟨_, List.getElem?_eq_getElem (by omega)⟩
      have f0 := ho.frozenAt k
      have HST := Lib.hid (ho.stored k (.int .u8 238)).1
      have HFS := Lib.hid (hf.set (p := ⟨g, k, none⟩) (.inl rfl) (.int .u8 238))
      clear ho hf
      go_wp2_with fail
      exact ⟨⟨k + 1, _, by omega, by go_num, HST.out, HFS.out⟩, by simp [intOf]; omega⟩
    · obtain rfl : k = n := by omega
      have HO2 := Lib.hid (ho.alloc (.cells #[.int .u8 238] 5))
      have hsz := hf.size
      clear ho hf
      go_wp2_with (at_builtin; refine wpList_append_own _ rfl (.tmp 12) (.tmp 13) 32 rfl lo 5 i00 (.int .u8 0) 1 1 Tryz.underlying32 hi hz0 hz1 hz2 rfl (by decide) _ k ys rfl HO2.out ⟨wr.heap.size, 0, none⟩ 1 1 [.int .u8 238] rfl rfl ?c1 ?c2 ?c3 ?c4 ?c5 ?_)
      case c1 => exact lit_cells wr #[.int .u8 238] 5
      case c2 => intro u hu; simp only [List.mem_singleton] at hu; subst hu; rfl
      case c3 => unfold maxLen; omega
      case c4 => omega
      case c5 => simp; omega
      intro v1 w2 hown1 hgrow1 _
      have HF2 := Lib.hid (HFR.out.alloc (.cells #[.int .u8 238] 5))
      have HF3 := Lib.hid (show KFr g W w2 from HF2.out.trans ⟨hgrow1.os, hgrow1.tape, hgrow1.output, hgrow1.size, fun j hj hne => hgrow1.block j hj (by simpa [Value.ownBlock] using hne)⟩)
      clear hown1 hgrow1
      go_wp2_with fail
      go_returns
      exact ⟨rfl, HF3.out⟩

def bytesOf (s : Wst) : List UInt8 := if s.full then [] else s.bs
def codeOf (s : Wst) : Int := if s.full then 24 else 0
theorem bytesOf_doc (x : ImgD) : bytesOf (layDoc x) = bytesOf (layOf x) := by
  unfold bytesOf
  rw [doc_full]
  cases h : (layOf x).full with
  | true => rfl
  | false => rw [doc_lay x h]
theorem codeOf_doc (x : ImgD) : codeOf (layDoc x) = codeOf (layOf x) := by
  unfold codeOf
  rw [doc_full]

/-- bytes that were made behind lo -/
structure Got (lo : Nat) (W : World) (a : Option Addr) (n c : Nat) (B : List UInt8) : Prop where
  bytes : Bytes W W.heap.size a n c B
  fresh : ∀ k o, a = some ⟨k, o, none⟩ → lo ≤ k
theorem Got.keep {lo : Nat} {W W' : World} {a : Option Addr} {n c : Nat} {B : List UInt8} (h : Got lo W a n c B) (hs : W.heap.size ≤ W'.heap.size) (hk : ∀ k, lo ≤ k → k < W.heap.size → W'.heap[k]? = W.heap[k]?) : Got lo W' a n c B := by
  obtain ⟨⟨h1, h2, h3, h4⟩, hf⟩ := h
  refine ⟨⟨h1, h2, h3, ?_⟩, hf⟩
  rcases h4 with h4 | ⟨bb, o, e, hb, hc⟩
  · exact .inl h4
  · exact .inr ⟨bb, o, e, by omega, fun j c hj => by rw [World.cell?_of_block (a := ⟨bb, o + j, none⟩) (hk bb (hf bb o e) hb)]; exact hc j c hj⟩
theorem got_nil (lo : Nat) (W : World) : Got lo W none 0 0 [] := ⟨⟨rfl, Nat.le_refl _, Nat.zero_le _, .inl ⟨rfl, rfl⟩⟩, fun _ _ h => by cases h⟩
theorem got_own {lo : Nat} {W : World} {g cap : Nat} {B : List UInt8} (h : W.ownsRow lo 5 1 (.slice (some ⟨g, 0, none⟩) B.length cap) B.length (byteCells B)) : Got lo W (some ⟨g, 0, none⟩) B.length cap B :=
  ⟨bytes_of_own h, fun k o hk => by cases hk; exact (own_type h (k := g) rfl).1⟩
/-- what stays where bytes made behind lo, ahead of hi, are overwritten -/
structure Most (lo hi : Nat) (W W' : World) : Prop where
  os : W'.os = W.os
  tape : W'.tape = W.tape
  output : W'.output = W.output
  size : W.heap.size ≤ W'.heap.size
  block : ∀ k, k < W.heap.size → k < lo ∨ hi ≤ k → W'.heap[k]? = W.heap[k]?
theorem Most.below {lo hi B : Nat} {W V V' : World} (h : Below B W V) (h' : Most lo hi V V') (hB : B ≤ lo) (hs : B ≤ V.heap.size) : Below B W V' :=
  h.trans ⟨h'.os, h'.tape, h'.output, h'.size, fun k hk => h'.block k (by omega) (.inl (by omega))⟩

theorem laid_open {W W' : World} {x : ImgD} {e : Ending} (hE : Env W') (h : Laid W' W.heap.size x e) (hl : (bytesOf (layOf x)).length ≤ 100000000000000) :
    ∃ a n c ev, e = .returned (.tuple #[.slice a n c, ev]) ∧ Got W.heap.size W' a n c (bytesOf (layOf x))
      ∧ (∀ V, Below W'.heap.size W' V → Calls Tryz.prog 12 #[ev] V fun e V' => e = .returned (.int .i64 (codeOf (layOf x))) ∧ Below V.heap.size V V')
      ∧ (∀ V, Below W'.heap.size W' V → Calls Tryz.prog 15 #[.slice a n c] V fun e V' => e = .returned (.tuple #[]) ∧ Most W.heap.size W'.heap.size V V') := by
  rcases h with ⟨hf, g, rfl, hg⟩ | ⟨hf, g, cap, rfl, hown⟩
  · refine ⟨none, 0, 0, _, rfl, ?_, fun V hb => ?_, fun V hb => ?_⟩
    · simp only [bytesOf, hf, if_true]; exact got_nil _ _
    · simp only [codeOf, hf, if_true]
      exact code_err 24 g V (hE.keep hb hE.size) ((hb.block g (heap_lt hg)).trans hg)
    · exact (over_nil V).mono fun e V' ⟨h1, h2⟩ => ⟨h1, h2.os, h2.tape, h2.output, h2.size, fun k hk _ => h2.block k hk⟩
  · have hb0 : bytesOf (layOf x) = (layOf x).bs := by simp only [bytesOf, hf]; rfl
    rw [hb0] at hl
    obtain ⟨hlo, hgs, hcc⟩ := own_type hown (k := g) rfl
    refine ⟨_, _, _, _, rfl, ?_, fun V hb => ?_, fun V hb => ?_⟩
    · rw [hb0]; exact got_own hown
    · simp only [codeOf, hf]
      exact code_nil V
    · have ho : V.ownsRow W.heap.size 5 1 (.slice (some ⟨g, 0, none⟩) (layOf x).bs.length cap) (layOf x).bs.length (byteCells (layOf x).bs) := by
        refine ⟨hown.1, ?_⟩
        rcases hown.2 with h1 | ⟨g', cap', cur, hv, hg', hc, hr⟩
        · exact .inl h1
        · exact .inr ⟨g', cap', cur, hv, hg', (hb.block g' (heap_lt hc)).trans hc, hr⟩
      exact (over_wide V W.heap.size g _ cap _ ho hl).mono fun e V' ⟨h1, h2⟩ => ⟨h1, h2.os, h2.tape, h2.output, h2.size, fun k hk hne => h2.block k hk (by omega)⟩

theorem doc_open {W W' : World} {x : ImgD} {e : Ending} (h : LaidDoc W' W.heap.size (layDoc x) e) :
    ∃ a n c, e = .returned (.tuple #[.slice a n c, .int .i64 (codeOf (layOf x))]) ∧ Got W.heap.size W' a n c (bytesOf (layOf x)) := by
  rw [← codeOf_doc, ← bytesOf_doc]
  rcases h with ⟨hf, rfl⟩ | ⟨hf, g, cap, rfl, hown⟩
  · refine ⟨none, 0, 0, by simp only [codeOf, hf, if_true], ?_⟩
    simp only [bytesOf, hf, if_true]; exact got_nil _ _
  · refine ⟨_, _, _, by simp only [codeOf, hf]; rfl, ?_⟩
    rw [show bytesOf (layDoc x) = (layDoc x).bs by simp only [bytesOf, hf]; rfl]
    exact got_own hown
/-- l.SameImage, whichever two -/
theorem same_image {W : World} {vs us : List Value} {x y : ImgD} {lim : Nat} (h1 : shImg.Is (fun k => k < lim) W vs x) (h2 : shImg.Is (fun k => k < lim) W us y) (hl : lim ≤ W.heap.size) (β : Bool) (hβ : β = true ↔ x = y) :
    Calls Tryz.prog 14 #[mkA vs, mkA us] W fun e W' => e = .returned (.bool β) ∧ Below W.heap.size W W' := by
  cases β with
  | true => obtain rfl := hβ.1 rfl; exact eq_image lim W vs us x h1 h2 hl
  | false => exact ne_image lim W vs us x y h1 h2 hl (fun e => by have := hβ.2 e; cases this)
end Go.Proofs.YtoaohoeghlidaaaGreatDoor
