/-
  Read: the image whose bytes these are.
-/
import Derived.Test.YtoaohoeghlidaaaGreatDoorRImg
import Derived.Test.YtoaohoeghlidaaaGreatDoorErr
import Derived.Laws.Rows
import Derived.Laws.Tables
namespace Go.Proofs.YtoaohoeghlidaaaGreatDoor
open Go.ChangeShapes Go.WideShapes Go.ChangeAt Go.RowKit

theorem results_cell_tmp {P : Program} {fn : Func} {p q : Tmp} {ty : TypeId} (h : fn.results = #[.cell p ty, .tmp q]) (tmps : Array Value) (w : World) (g : Nat) (t : TypeId) (cs : Array Value) (fr : Nat × Nat) (d : TypeDesc)
    (hp : tmps.getD p undef = .pointer (some ⟨g, 0, none⟩)) (hg : w.heap[g]? = some (.cells cs t fr))
    (hu : P.underlying ty = some d) (hd : (match d with | .struct _ | .array _ _ => true | _ => false) = true) (hi : (P.info? ty).map (·.size) = some cs.size) :
    (results fn tmps).run P w = .ok (.tuple #[.agg cs, tmps.getD q undef]) w := by
  have hp' : tmps[p]?.getD undef = .pointer (some ⟨g, 0, none⟩) := by simpa using hp
  simp [results, h, hp', asAddr, run_loadVar_row w g t ty cs fr d hg hu hd hi]
def zeroImg : Array Value := #[.slice none 0 0, .slice none 0 0, .slice none 0 0, .slice none 0 0, .string ⟨#[]⟩, .slice none 0 0, .slice none 0 0, .slice none 0 0, .slice none 0 0, .slice none 0 0, .int .i64 0, .int .i64 0]
/-- what Read answers -/
def ReadAns (W W' : World) (B : List UInt8) (e : Ending) : Prop :=
  (readOk B = true ∧ ∃ vs, e = .returned (.tuple #[.agg vs.toArray, .nilIface]) ∧ shImg.Is (fun k => W.heap.size ≤ k ∧ k < W'.heap.size) W' vs (readSt B).1)
  ∨ (readOk B = false ∧ ∃ g, e = .returned (.tuple #[.agg #[.slice none 0 0, .slice none 0 0, .slice none 0 0, .slice none 0 0, .string ⟨#[]⟩, .slice none 0 0, .slice none 0 0, .slice none 0 0, .slice none 0 0, .slice none 0 0, .int .i64 0, .int .i64 0], .iface 122 (.pointer (some ⟨g, 0, none⟩))]) ∧ W'.heap[g]? = some (.cells #[.int .i64 19, .int .i64 0, .nilIface] 124 (0, 0)))
theorem below_kfr {b B : Nat} {W W' : World} (h : KFr b W W') (hb : B ≤ b) (hB : B ≤ W.heap.size) : Below B W W' := ⟨h.os, h.tape, h.output, h.size, fun k hk => h.block k (by omega) (by omega)⟩
theorem below_row {B : Nat} {W W1 : World} (h : Below B W W1) {q : Nat} (hq : B ≤ q) (cs : Array Value) : Below B W (W1.setRow q cs) :=
  ⟨h.os, h.tape, h.output, by rw [size_setRow]; exact h.size, fun k hk => (setRow_other _ _ _ _ (by omega)).trans (h.block k hk)⟩

set_option maxHeartbeats 3200000 in
set_option maxRecDepth 100000 in
theorem read_any (W : World) (B : List UInt8) (a : Option Addr) (n cap : Nat) (hB : Bytes W W.heap.size a n cap B) (hlen : B.length ≤ 10000000000000) :
    Calls Tryz.prog 17 #[.slice a n cap] W fun e W' => ReadAns W W' B e ∧ Below W.heap.size W W' := by
  have hbl := hB.1
  have HJ0 := Lib.hid ((Below.heap_alloc (W.alloc (.cells #[.slice none 0 0, .slice none 0 0, .slice none 0 0, .slice none 0 0, .string ⟨#[]⟩, .slice none 0 0, .slice none 0 0, .slice none 0 0, .slice none 0 0, .slice none 0 0, .int .i64 0, .int .i64 0] 29)) (.cells #[.slice a n cap, .int .i64 0, .bool false] 94) W.heap.size (by simp)).trans (heap_alloc_new W (.cells #[.slice none 0 0, .slice none 0 0, .slice none 0 0, .slice none 0 0, .string ⟨#[]⟩, .slice none 0 0, .slice none 0 0, .slice none 0 0, .slice none 0 0, .slice none 0 0, .int .i64 0, .int .i64 0] 29)))
  have hrb : ((W.alloc (.cells #[.slice none 0 0, .slice none 0 0, .slice none 0 0, .slice none 0 0, .string ⟨#[]⟩, .slice none 0 0, .slice none 0 0, .slice none 0 0, .slice none 0 0, .slice none 0 0, .int .i64 0, .int .i64 0] 29)).alloc (.cells #[.slice a n cap, .int .i64 0, .bool false] 94)).heap[W.heap.size + 1]? = some (.cells #[.slice a n cap, .int .i64 0, .bool false] 94 (0, 0)) := by
    have := heap_alloc_new (W.alloc (.cells #[.slice none 0 0, .slice none 0 0, .slice none 0 0, .slice none 0 0, .string ⟨#[]⟩, .slice none 0 0, .slice none 0 0, .slice none 0 0, .slice none 0 0, .slice none 0 0, .int .i64 0, .int .i64 0] 29)) (.cells #[.slice a n cap, .int .i64 0, .bool false] 94)
    rw [show (W.alloc (.cells #[.slice none 0 0, .slice none 0 0, .slice none 0 0, .slice none 0 0, .string ⟨#[]⟩, .slice none 0 0, .slice none 0 0, .slice none 0 0, .slice none 0 0, .slice none 0 0, .int .i64 0, .int .i64 0] 29)).heap.size = W.heap.size + 1 by simp] at this
    exact this
  have HB0 := Lib.hid (((Below.refl W.heap.size W).alloc (Nat.le_refl _) (.cells #[.slice none 0 0, .slice none 0 0, .slice none 0 0, .slice none 0 0, .string ⟨#[]⟩, .slice none 0 0, .slice none 0 0, .slice none 0 0, .slice none 0 0, .slice none 0 0, .int .i64 0, .int .i64 0] 29)).alloc (by simp) (.cells #[.slice a n cap, .int .i64 0, .bool false] 94))
  have hbytes : Bytes ((W.alloc (.cells #[.slice none 0 0, .slice none 0 0, .slice none 0 0, .slice none 0 0, .string ⟨#[]⟩, .slice none 0 0, .slice none 0 0, .slice none 0 0, .slice none 0 0, .slice none 0 0, .int .i64 0, .int .i64 0] 29)).alloc (.cells #[.slice a n cap, .int .i64 0, .bool false] 94)) (W.heap.size + 1) a n cap B := by
    obtain ⟨h1, h2, h3, h4⟩ := hB.keep (fun k hk => HB0.out.block k hk)
    refine ⟨h1, h2, h3, ?_⟩
    rcases h4 with h4 | ⟨bb, o, e, hb, hc⟩
    · exact .inl h4
    · exact .inr ⟨bb, o, e, by omega, hc⟩
  have hr0 : RAt ((W.alloc (.cells #[.slice none 0 0, .slice none 0 0, .slice none 0 0, .slice none 0 0, .string ⟨#[]⟩, .slice none 0 0, .slice none 0 0, .slice none 0 0, .slice none 0 0, .slice none 0 0, .int .i64 0, .int .i64 0] 29)).alloc (.cells #[.slice a n cap, .int .i64 0, .bool false] 94)) (W.heap.size + 1) B ⟨0, false⟩ := ⟨a, n, cap, hrb, hbytes, Nat.zero_le _, hlen⟩
  have hc := rtext_any B (W.heap.size + 1) ⟨0, false⟩ _ hr0
  obtain ⟨⟨tx, t0⟩, htx⟩ : ∃ r, rText B ⟨0, false⟩ = r := ⟨_, rfl⟩
  rw [htx] at hc
  simp only at hc
  obtain ⟨⟨y, t1⟩, hy⟩ : ∃ r, readSt B = r := ⟨_, rfl⟩
  have hok : readOk B = (!t1.wrong && decide (t1.at_ = B.length)) := by unfold readOk; rw [hy]
  have hy2 : cImg.r B ⟨t0.at_, decide (tx ≠ magic)⟩ = (y, t1) := by
    have := hy
    unfold readSt at this
    rw [htx] at this
    exact this
  have HY := Lib.hid hy
  have HY2 := Lib.hid hy2
  have HOK := Lib.hid hok
  clear hB hrb hbytes hr0 htx hy hy2 hok hlen
  go_enter Tryz.func17, Tryz.ntmps17
  go_wp2_with (go_at_call 44; refine hc.mono ?_)
  rintro e W1 ⟨rfl, hr1, hf1⟩
  have hJ1 := (hf1.block _ (heap_lt HJ0.out) (by omega)).trans HJ0.out
  have hB1 := HB0.out.trans (below_kfr hf1 (Nat.le_succ _) (by simp; omega))
  obtain ⟨β, hβ⟩ : ∃ β, decide (tx ≠ magic) = β := ⟨_, rfl⟩
  rw [hβ] at HY2
  have hbv : (!(tx.toList == ([103, 111, 118, 45, 49] : List UInt8))) = β := by
    rw [← hβ]
    have hiff : tx.toList = [103, 111, 118, 45, 49] ↔ tx = magic := by
      rw [ByteArray.toList_eq]
      constructor
      · intro h
        rcases tx with ⟨⟨l⟩⟩
        simp at h
        subst h
        rfl
      · intro h; rw [h]; rfl
    by_cases hm : tx = magic
    · rw [hiff.2 hm, hm]; simp
    · have h1 : tx.toList ≠ [103, 111, 118, 45, 49] := fun h => hm (hiff.1 h)
      simp [hm, h1]
  obtain ⟨a1', n1', cap1', -, -, cw, -, fw, -⟩ := hr1.cells
  have hrs : RAt (W1.setCell ⟨W.heap.size + 1, 2, none⟩ (.bool β)) (W.heap.size + 1) B ⟨t0.at_, β⟩ := by
    obtain ⟨a2, n2, cap2, h1, h2, h3, h4⟩ := hr1
    exact ⟨a2, n2, cap2, cells3_2 _ h1, h2.keep (fun k hk => setCell_rest _ _ _ _ (by simp; omega)), h3, h4⟩
  have HJ2 := Lib.hid ((setCell_rest W1 ⟨W.heap.size + 1, 2, none⟩ (.bool β) W.heap.size (by simp)).trans hJ1)
  have HB2 := Lib.hid (hB1.setCell (p := ⟨W.heap.size + 1, 2, none⟩) (Nat.le_succ _) (.bool β))
  have hc2 := rd_img B (W.heap.size + 1) ⟨t0.at_, β⟩ _ hrs
  rw [HY2.out] at hc2
  simp only at hc2
  have HRS := Lib.hid hrs
  clear hc hr1 hf1 hJ1 hB1 hβ hrs
  go_wp2_with (go_at_call 45; refine hc2.mono ?_)
  rintro e W2 ⟨vs, rfl, hI, hr2, hf2⟩
  have hsz2 : W.heap.size + 2 ≤ (W1.setCell ⟨W.heap.size + 1, 2, none⟩ (.bool β)).heap.size := by have := HRS.out.lt; omega
  have hJ3 := (hf2.block _ (heap_lt HJ2.out) (by omega)).trans HJ2.out
  have hB3 := HB2.out.trans (below_kfr hf2 (Nat.le_succ _) (by omega))
  have hIw : shImg.Is (fun k => W.heap.size + 2 ≤ k ∧ k < W2.heap.size) W2 vs y := shImg.wide (fun k ⟨h1, cs, t, fz, h2, _⟩ => ⟨by omega, heap_lt h2⟩) hI
  have hsz3 := hf2.size
  obtain ⟨a0, l0, c0, a1, l1, c1, a2, l2, c2, a3, l3, c3, a5, l5, c5, a6, l6, c6, a7, l7, c7, a8, l8, c8, a9, l9, c9, rfl, -⟩ := img_is.1 hIw
  have HI := Lib.hid hIw
  have HRR := Lib.hid (hr2.alloc (.cells #[.slice none 0 0, .slice none 0 0, .slice none 0 0, .slice none 0 0, .string ⟨#[]⟩, .slice none 0 0, .slice none 0 0, .slice none 0 0, .slice none 0 0, .slice none 0 0, .int .i64 0, .int .i64 0] 29))
  have hJ4 := (Below.heap_alloc W2 (.cells #[.slice none 0 0, .slice none 0 0, .slice none 0 0, .slice none 0 0, .string ⟨#[]⟩, .slice none 0 0, .slice none 0 0, .slice none 0 0, .slice none 0 0, .slice none 0 0, .int .i64 0, .int .i64 0] 29) _ (heap_lt hJ3)).trans hJ3
  have hK4 : (W2.alloc (.cells #[.slice none 0 0, .slice none 0 0, .slice none 0 0, .slice none 0 0, .string ⟨#[]⟩, .slice none 0 0, .slice none 0 0, .slice none 0 0, .slice none 0 0, .slice none 0 0, .int .i64 0, .int .i64 0] 29)).heap[W2.heap.size]? = some (.cells #[.slice none 0 0, .slice none 0 0, .slice none 0 0, .slice none 0 0, .string ⟨#[]⟩, .slice none 0 0, .slice none 0 0, .slice none 0 0, .slice none 0 0, .slice none 0 0, .int .i64 0, .int .i64 0] 29 (0, 0)) := heap_alloc_new W2 _
  have hB4 := hB3.alloc (by omega) (.cells #[.slice none 0 0, .slice none 0 0, .slice none 0 0, .slice none 0 0, .string ⟨#[]⟩, .slice none 0 0, .slice none 0 0, .slice none 0 0, .slice none 0 0, .slice none 0 0, .int .i64 0, .int .i64 0] 29)
  have hqq : W2.heap.size ≠ W.heap.size := by omega
  have HK4 := Lib.hid hK4
  have hJ5 := (setRow_other (W2.alloc (.cells #[.slice none 0 0, .slice none 0 0, .slice none 0 0, .slice none 0 0, .string ⟨#[]⟩, .slice none 0 0, .slice none 0 0, .slice none 0 0, .slice none 0 0, .slice none 0 0, .int .i64 0, .int .i64 0] 29)) W2.heap.size #[.slice a0 l0 c0, .slice a1 l1 c1, .slice a2 l2 c2, .slice a3 l3 c3, .string y.globals, .slice a5 l5 c5, .slice a6 l6 c6, .slice a7 l7 c7, .slice a8 l8 c8, .slice a9 l9 c9, .int .i64 y.d, .int .i64 y.w] W.heap.size (Ne.symm hqq)).trans hJ4
  have HJ5 := Lib.hid hJ5
  have HK5 := Lib.hid (setRow_same #[.slice a0 l0 c0, .slice a1 l1 c1, .slice a2 l2 c2, .slice a3 l3 c3, .string y.globals, .slice a5 l5 c5, .slice a6 l6 c6, .slice a7 l7 c7, .slice a8 l8 c8, .slice a9 l9 c9, .int .i64 y.d, .int .i64 y.w] hK4)
  have HB5 := Lib.hid (below_row hB4 (q := W2.heap.size) (by omega) #[.slice a0 l0 c0, .slice a1 l1 c1, .slice a2 l2 c2, .slice a3 l3 c3, .string y.globals, .slice a5 l5 c5, .slice a6 l6 c6, .slice a7 l7 c7, .slice a8 l8 c8, .slice a9 l9 c9, .int .i64 y.d, .int .i64 y.w])
  have HR5 := Lib.hid ((hr2.alloc (.cells #[.slice none 0 0, .slice none 0 0, .slice none 0 0, .slice none 0 0, .string ⟨#[]⟩, .slice none 0 0, .slice none 0 0, .slice none 0 0, .slice none 0 0, .slice none 0 0, .int .i64 0, .int .i64 0] 29)).row (q := W2.heap.size) (by omega) #[.slice a0 l0 c0, .slice a1 l1 c1, .slice a2 l2 c2, .slice a3 l3 c3, .string y.globals, .slice a5 l5 c5, .slice a6 l6 c6, .slice a7 l7 c7, .slice a8 l8 c8, .slice a9 l9 c9, .int .i64 y.d, .int .i64 y.w])
  have hkeep : ∀ k, W.heap.size + 2 ≤ k ∧ k < W2.heap.size → ((W2.alloc (.cells #[.slice none 0 0, .slice none 0 0, .slice none 0 0, .slice none 0 0, .string ⟨#[]⟩, .slice none 0 0, .slice none 0 0, .slice none 0 0, .slice none 0 0, .slice none 0 0, .int .i64 0, .int .i64 0] 29)).setRow W2.heap.size #[.slice a0 l0 c0, .slice a1 l1 c1, .slice a2 l2 c2, .slice a3 l3 c3, .string y.globals, .slice a5 l5 c5, .slice a6 l6 c6, .slice a7 l7 c7, .slice a8 l8 c8, .slice a9 l9 c9, .int .i64 y.d, .int .i64 y.w]).heap[k]? = W2.heap[k]? := fun k hk => (setRow_other _ _ _ _ (by omega)).trans (Below.heap_alloc _ _ _ hk.2)
  have HI5 := Lib.hid (shImg.keep hkeep hIw)
  have hs5 : ((W2.alloc (.cells #[.slice none 0 0, .slice none 0 0, .slice none 0 0, .slice none 0 0, .string ⟨#[]⟩, .slice none 0 0, .slice none 0 0, .slice none 0 0, .slice none 0 0, .slice none 0 0, .int .i64 0, .int .i64 0] 29)).setRow W2.heap.size #[.slice a0 l0 c0, .slice a1 l1 c1, .slice a2 l2 c2, .slice a3 l3 c3, .string y.globals, .slice a5 l5 c5, .slice a6 l6 c6, .slice a7 l7 c7, .slice a8 l8 c8, .slice a9 l9 c9, .int .i64 y.d, .int .i64 y.w]).heap.size = W2.heap.size + 1 := by rw [size_setRow]; simp
  have HS5 := Lib.hid hs5
  clear hc2 hI hIw hr2 hf2 hJ3 hB3 hJ4 hK4 hB4 hJ5 hkeep hs5 hbv
  have hone : (#[.slice a0 l0 c0, .slice a1 l1 c1, .slice a2 l2 c2, .slice a3 l3 c3, .string y.globals, .slice a5 l5 c5, .slice a6 l6 c6, .slice a7 l7 c7, .slice a8 l8 c8, .slice a9 l9 c9, .int .i64 y.d, .int .i64 y.w] : Array Value).all (·.oneCell') = true := by simp [Value.oneCell']
  obtain ⟨aa, nn, cc, g0, g1, g2, -⟩ := HR5.out.cells
  simp only [mkA]
  cases hw : t1.wrong with
  | true =>
    rw [hw] at g2
    have HNO := Lib.hid (show readOk B = false by rw [HOK.out, hw]; rfl)
    have hnew := new_any 19 0 ((W2.alloc (.cells #[.slice none 0 0, .slice none 0 0, .slice none 0 0, .slice none 0 0, .string ⟨#[]⟩, .slice none 0 0, .slice none 0 0, .slice none 0 0, .slice none 0 0, .slice none 0 0, .int .i64 0, .int .i64 0] 29)).setRow W2.heap.size #[.slice a0 l0 c0, .slice a1 l1 c1, .slice a2 l2 c2, .slice a3 l3 c3, .string y.globals, .slice a5 l5 c5, .slice a6 l6 c6, .slice a7 l7 c7, .slice a8 l8 c8, .slice a9 l9 c9, .int .i64 y.d, .int .i64 y.w])
    clear hw
    go_wp2_with (first | (refine wpList_store_row rfl 29 (.tmp 5) (.tmp 16) rfl W2.heap.size #[.slice a0 l0 c0, .slice a1 l1 c1, .slice a2 l2 c2, .slice a3 l3 c3, .string y.globals, .slice a5 l5 c5, .slice a6 l6 c6, .slice a7 l7 c7, .slice a8 l8 c8, .slice a9 l9 c9, .int .i64 y.d, .int .i64 y.w] rfl rfl 29 #[.slice none 0 0, .slice none 0 0, .slice none 0 0, .slice none 0 0, .string ⟨#[]⟩, .slice none 0 0, .slice none 0 0, .slice none 0 0, .slice none 0 0, .slice none 0 0, .int .i64 0, .int .i64 0] HK4.out size29 rfl hone ?_) | (go_at_call 23; refine hnew.mono ?_))
    rintro e W3 ⟨rfl, hW3⟩
    have HX3 := Lib.hid (show W3.heap[W2.heap.size + 1]? = some (.cells #[.int .i64 19, .int .i64 0, .nilIface] 124 (0, 0)) by rw [hW3, ← HS5.out]; exact heap_alloc_new _ _)
    have HJ6 := Lib.hid (show W3.heap[W.heap.size]? = some (.cells #[.slice none 0 0, .slice none 0 0, .slice none 0 0, .slice none 0 0, .string ⟨#[]⟩, .slice none 0 0, .slice none 0 0, .slice none 0 0, .slice none 0 0, .slice none 0 0, .int .i64 0, .int .i64 0] 29 (0, 0)) by rw [hW3]; exact (Below.heap_alloc _ _ _ (heap_lt HJ5.out)).trans HJ5.out)
    have HB6 := Lib.hid (show Below W.heap.size W W3 by rw [hW3]; exact HB5.out.alloc (by rw [HS5.out]; omega) _)
    have HX7 := Lib.hid ((setRow_other W3 W.heap.size #[.slice none 0 0, .slice none 0 0, .slice none 0 0, .slice none 0 0, .string ⟨#[]⟩, .slice none 0 0, .slice none 0 0, .slice none 0 0, .slice none 0 0, .slice none 0 0, .int .i64 0, .int .i64 0] (W2.heap.size + 1) (by omega)).trans HX3.out)
    have HJ7 := Lib.hid (setRow_same #[.slice none 0 0, .slice none 0 0, .slice none 0 0, .slice none 0 0, .string ⟨#[]⟩, .slice none 0 0, .slice none 0 0, .slice none 0 0, .slice none 0 0, .slice none 0 0, .int .i64 0, .int .i64 0] HJ6.out)
    have HB7 := Lib.hid (below_row HB6.out (q := W.heap.size) (Nat.le_refl _) #[.slice none 0 0, .slice none 0 0, .slice none 0 0, .slice none 0 0, .string ⟨#[]⟩, .slice none 0 0, .slice none 0 0, .slice none 0 0, .slice none 0 0, .slice none 0 0, .int .i64 0, .int .i64 0])
    rw [HS5.out]
    have hz1 : (#[.slice none 0 0, .slice none 0 0, .slice none 0 0, .slice none 0 0, .string ⟨#[]⟩, .slice none 0 0, .slice none 0 0, .slice none 0 0, .slice none 0 0, .slice none 0 0, .int .i64 0, .int .i64 0] : Array Value).all (·.oneCell') = true := by simp [Value.oneCell']
    clear hW3 g0 g1 g2 hone hnew
    go_wp2_with (refine wpList_store_row rfl 29 (.tmp 2) (.tmp 30) rfl W.heap.size #[.slice none 0 0, .slice none 0 0, .slice none 0 0, .slice none 0 0, .string ⟨#[]⟩, .slice none 0 0, .slice none 0 0, .slice none 0 0, .slice none 0 0, .slice none 0 0, .int .i64 0, .int .i64 0] rfl rfl 29 #[.slice none 0 0, .slice none 0 0, .slice none 0 0, .slice none 0 0, .string ⟨#[]⟩, .slice none 0 0, .slice none 0 0, .slice none 0 0, .slice none 0 0, .slice none 0 0, .int .i64 0, .int .i64 0] HJ6.out size29 rfl hz1 ?_)
    refine bodyPost_ret (by exact results_cell_tmp (p := 2) (q := 3) (ty := 29) rfl _ _ W.heap.size 29 #[.slice none 0 0, .slice none 0 0, .slice none 0 0, .slice none 0 0, .string ⟨#[]⟩, .slice none 0 0, .slice none 0 0, .slice none 0 0, .slice none 0 0, .slice none 0 0, .int .i64 0, .int .i64 0] (0, 0) _ rfl HJ7.out Tryz.underlying29 rfl size29) rfl ?_
    refine ⟨.inr ⟨HNO.out, W2.heap.size + 1, ?_, HX7.out⟩, HB7.out⟩
    simp
  | false =>
    rw [hw] at g2
    by_cases hat : t1.at_ = B.length
    · have HYES := Lib.hid (show readOk B = true by rw [HOK.out, hw, decide_eq_true hat]; rfl)
      have d0 : ((t1.at_ : Int) != (n : Int)) = false := by rw [hat, hbl]; simp
      have HJ6 := Lib.hid (setRow_same #[.slice a0 l0 c0, .slice a1 l1 c1, .slice a2 l2 c2, .slice a3 l3 c3, .string y.globals, .slice a5 l5 c5, .slice a6 l6 c6, .slice a7 l7 c7, .slice a8 l8 c8, .slice a9 l9 c9, .int .i64 y.d, .int .i64 y.w] HJ5.out)
      have HB6 := Lib.hid (below_row HB5.out (q := W.heap.size) (Nat.le_refl _) #[.slice a0 l0 c0, .slice a1 l1 c1, .slice a2 l2 c2, .slice a3 l3 c3, .string y.globals, .slice a5 l5 c5, .slice a6 l6 c6, .slice a7 l7 c7, .slice a8 l8 c8, .slice a9 l9 c9, .int .i64 y.d, .int .i64 y.w])
      have HI6 := Lib.hid (show shImg.Is (fun k => W.heap.size ≤ k ∧ k < (((W2.alloc (.cells #[.slice none 0 0, .slice none 0 0, .slice none 0 0, .slice none 0 0, .string ⟨#[]⟩, .slice none 0 0, .slice none 0 0, .slice none 0 0, .slice none 0 0, .slice none 0 0, .int .i64 0, .int .i64 0] 29)).setRow W2.heap.size #[.slice a0 l0 c0, .slice a1 l1 c1, .slice a2 l2 c2, .slice a3 l3 c3, .string y.globals, .slice a5 l5 c5, .slice a6 l6 c6, .slice a7 l7 c7, .slice a8 l8 c8, .slice a9 l9 c9, .int .i64 y.d, .int .i64 y.w]).setRow W.heap.size #[.slice a0 l0 c0, .slice a1 l1 c1, .slice a2 l2 c2, .slice a3 l3 c3, .string y.globals, .slice a5 l5 c5, .slice a6 l6 c6, .slice a7 l7 c7, .slice a8 l8 c8, .slice a9 l9 c9, .int .i64 y.d, .int .i64 y.w]).heap.size) (((W2.alloc (.cells #[.slice none 0 0, .slice none 0 0, .slice none 0 0, .slice none 0 0, .string ⟨#[]⟩, .slice none 0 0, .slice none 0 0, .slice none 0 0, .slice none 0 0, .slice none 0 0, .int .i64 0, .int .i64 0] 29)).setRow W2.heap.size #[.slice a0 l0 c0, .slice a1 l1 c1, .slice a2 l2 c2, .slice a3 l3 c3, .string y.globals, .slice a5 l5 c5, .slice a6 l6 c6, .slice a7 l7 c7, .slice a8 l8 c8, .slice a9 l9 c9, .int .i64 y.d, .int .i64 y.w]).setRow W.heap.size #[.slice a0 l0 c0, .slice a1 l1 c1, .slice a2 l2 c2, .slice a3 l3 c3, .string y.globals, .slice a5 l5 c5, .slice a6 l6 c6, .slice a7 l7 c7, .slice a8 l8 c8, .slice a9 l9 c9, .int .i64 y.d, .int .i64 y.w]) _ y from shImg.wide (fun k hk => ⟨by omega, by rw [size_setRow, HS5.out]; omega⟩) (shImg.keep (fun k hk => setRow_other _ _ _ _ (by omega)) HI5.out))
      clear hw hat
      go_wp2_with (first | (refine wpList_store_row rfl 29 (.tmp 5) (.tmp 16) rfl W2.heap.size #[.slice a0 l0 c0, .slice a1 l1 c1, .slice a2 l2 c2, .slice a3 l3 c3, .string y.globals, .slice a5 l5 c5, .slice a6 l6 c6, .slice a7 l7 c7, .slice a8 l8 c8, .slice a9 l9 c9, .int .i64 y.d, .int .i64 y.w] rfl rfl 29 #[.slice none 0 0, .slice none 0 0, .slice none 0 0, .slice none 0 0, .string ⟨#[]⟩, .slice none 0 0, .slice none 0 0, .slice none 0 0, .slice none 0 0, .slice none 0 0, .int .i64 0, .int .i64 0] HK4.out size29 rfl hone ?_) | (refine wpList_load_row rfl 29 (.tmp 5) rfl W2.heap.size rfl 29 #[.slice a0 l0 c0, .slice a1 l1 c1, .slice a2 l2 c2, .slice a3 l3 c3, .string y.globals, .slice a5 l5 c5, .slice a6 l6 c6, .slice a7 l7 c7, .slice a8 l8 c8, .slice a9 l9 c9, .int .i64 y.d, .int .i64 y.w] (0, 0) _ HK5.out Tryz.underlying29 rfl size29 ?_) | (refine wpList_store_row rfl 29 (.tmp 2) (.tmp 32) rfl W.heap.size #[.slice a0 l0 c0, .slice a1 l1 c1, .slice a2 l2 c2, .slice a3 l3 c3, .string y.globals, .slice a5 l5 c5, .slice a6 l6 c6, .slice a7 l7 c7, .slice a8 l8 c8, .slice a9 l9 c9, .int .i64 y.d, .int .i64 y.w] rfl rfl 29 #[.slice none 0 0, .slice none 0 0, .slice none 0 0, .slice none 0 0, .string ⟨#[]⟩, .slice none 0 0, .slice none 0 0, .slice none 0 0, .slice none 0 0, .slice none 0 0, .int .i64 0, .int .i64 0] HJ5.out size29 rfl hone ?_))
      refine bodyPost_ret (by exact results_cell_tmp (p := 2) (q := 3) (ty := 29) rfl _ _ W.heap.size 29 #[.slice a0 l0 c0, .slice a1 l1 c1, .slice a2 l2 c2, .slice a3 l3 c3, .string y.globals, .slice a5 l5 c5, .slice a6 l6 c6, .slice a7 l7 c7, .slice a8 l8 c8, .slice a9 l9 c9, .int .i64 y.d, .int .i64 y.w] (0, 0) _ rfl HJ6.out Tryz.underlying29 rfl size29) rfl ?_
      refine ⟨.inl ⟨HYES.out, _, ?_, by rw [HY.out]; exact HI6.out⟩, HB6.out⟩
      simp
    · have HNO := Lib.hid (show readOk B = false by rw [HOK.out, decide_eq_false hat]; simp)
      have d0 : ((t1.at_ : Int) != (n : Int)) = true := by rw [← hbl]; simp; omega
      clear hat
      have hnew := new_any 19 0 ((W2.alloc (.cells #[.slice none 0 0, .slice none 0 0, .slice none 0 0, .slice none 0 0, .string ⟨#[]⟩, .slice none 0 0, .slice none 0 0, .slice none 0 0, .slice none 0 0, .slice none 0 0, .int .i64 0, .int .i64 0] 29)).setRow W2.heap.size #[.slice a0 l0 c0, .slice a1 l1 c1, .slice a2 l2 c2, .slice a3 l3 c3, .string y.globals, .slice a5 l5 c5, .slice a6 l6 c6, .slice a7 l7 c7, .slice a8 l8 c8, .slice a9 l9 c9, .int .i64 y.d, .int .i64 y.w])
      go_wp2_with (first | (refine wpList_store_row rfl 29 (.tmp 5) (.tmp 16) rfl W2.heap.size #[.slice a0 l0 c0, .slice a1 l1 c1, .slice a2 l2 c2, .slice a3 l3 c3, .string y.globals, .slice a5 l5 c5, .slice a6 l6 c6, .slice a7 l7 c7, .slice a8 l8 c8, .slice a9 l9 c9, .int .i64 y.d, .int .i64 y.w] rfl rfl 29 #[.slice none 0 0, .slice none 0 0, .slice none 0 0, .slice none 0 0, .string ⟨#[]⟩, .slice none 0 0, .slice none 0 0, .slice none 0 0, .slice none 0 0, .slice none 0 0, .int .i64 0, .int .i64 0] HK4.out size29 rfl hone ?_) | (go_at_call 23; refine hnew.mono ?_))
      rintro e W3 ⟨rfl, hW3⟩
      have HX3 := Lib.hid (show W3.heap[W2.heap.size + 1]? = some (.cells #[.int .i64 19, .int .i64 0, .nilIface] 124 (0, 0)) by rw [hW3, ← HS5.out]; exact heap_alloc_new _ _)
      have HJ6 := Lib.hid (show W3.heap[W.heap.size]? = some (.cells #[.slice none 0 0, .slice none 0 0, .slice none 0 0, .slice none 0 0, .string ⟨#[]⟩, .slice none 0 0, .slice none 0 0, .slice none 0 0, .slice none 0 0, .slice none 0 0, .int .i64 0, .int .i64 0] 29 (0, 0)) by rw [hW3]; exact (Below.heap_alloc _ _ _ (heap_lt HJ5.out)).trans HJ5.out)
      have HB6 := Lib.hid (show Below W.heap.size W W3 by rw [hW3]; exact HB5.out.alloc (by rw [HS5.out]; omega) _)
      have HX7 := Lib.hid ((setRow_other W3 W.heap.size #[.slice none 0 0, .slice none 0 0, .slice none 0 0, .slice none 0 0, .string ⟨#[]⟩, .slice none 0 0, .slice none 0 0, .slice none 0 0, .slice none 0 0, .slice none 0 0, .int .i64 0, .int .i64 0] (W2.heap.size + 1) (by omega)).trans HX3.out)
      have HJ7 := Lib.hid (setRow_same #[.slice none 0 0, .slice none 0 0, .slice none 0 0, .slice none 0 0, .string ⟨#[]⟩, .slice none 0 0, .slice none 0 0, .slice none 0 0, .slice none 0 0, .slice none 0 0, .int .i64 0, .int .i64 0] HJ6.out)
      have HB7 := Lib.hid (below_row HB6.out (q := W.heap.size) (Nat.le_refl _) #[.slice none 0 0, .slice none 0 0, .slice none 0 0, .slice none 0 0, .string ⟨#[]⟩, .slice none 0 0, .slice none 0 0, .slice none 0 0, .slice none 0 0, .slice none 0 0, .int .i64 0, .int .i64 0])
      rw [HS5.out]
      have hz1 : (#[.slice none 0 0, .slice none 0 0, .slice none 0 0, .slice none 0 0, .string ⟨#[]⟩, .slice none 0 0, .slice none 0 0, .slice none 0 0, .slice none 0 0, .slice none 0 0, .int .i64 0, .int .i64 0] : Array Value).all (·.oneCell') = true := by simp [Value.oneCell']
      clear hW3 g0 g1 g2 hone hnew
      go_wp2_with (refine wpList_store_row rfl 29 (.tmp 2) (.tmp 30) rfl W.heap.size #[.slice none 0 0, .slice none 0 0, .slice none 0 0, .slice none 0 0, .string ⟨#[]⟩, .slice none 0 0, .slice none 0 0, .slice none 0 0, .slice none 0 0, .slice none 0 0, .int .i64 0, .int .i64 0] rfl rfl 29 #[.slice none 0 0, .slice none 0 0, .slice none 0 0, .slice none 0 0, .string ⟨#[]⟩, .slice none 0 0, .slice none 0 0, .slice none 0 0, .slice none 0 0, .slice none 0 0, .int .i64 0, .int .i64 0] HJ6.out size29 rfl hz1 ?_)
      refine bodyPost_ret (by exact results_cell_tmp (p := 2) (q := 3) (ty := 29) rfl _ _ W.heap.size 29 #[.slice none 0 0, .slice none 0 0, .slice none 0 0, .slice none 0 0, .string ⟨#[]⟩, .slice none 0 0, .slice none 0 0, .slice none 0 0, .slice none 0 0, .slice none 0 0, .int .i64 0, .int .i64 0] (0, 0) _ rfl HJ7.out Tryz.underlying29 rfl size29) rfl ?_
      refine ⟨.inr ⟨HNO.out, W2.heap.size + 1, ?_, HX7.out⟩, HB7.out⟩
      simp
end Go.Proofs.YtoaohoeghlidaaaGreatDoor
