/-
  Package table: chains, interfaces, who is one of whom.
-/
import Derived.Test.YtnjfbcoddbeggaaUfaces
namespace Go.Proofs.Ytnjfbcoddbeggaa
open Go Go.ChangeShapes Go.WideShapes Go.ChangeAt Go.RowKit Go.Joins

set_option maxHeartbeats 1600000 in
set_option maxRecDepth 100000 in
theorem tchain_any (W : World) (lim : Nat) (a : Option Addr) (l c : Nat) (ds : List DeclU) (hr : Row shDecl (fun k => k < lim) W a l ds) (hl : lim ≤ W.heap.size) (hf : l ≤ 16) (hf8 : Few ds) (d : Int) (hd : (Lit.int .i64 d).wf = true) :
    Calls Try.prog 16 #[.agg #[.slice a l c], .int .i64 d] W fun e W' => ∃ v, e = .returned v ∧ W'.ownsRow W.heap.size 3 1 v (chainU ds d).length ((chainU ds d).map iv) ∧ Below W.heap.size W W' := by
  have hb0 := (Below.refl W.heap.size W).alloc (Nat.le_refl _) (.cells #[.slice a l c] 24)
  have hx0 : (W.alloc (.cells #[.slice a l c] 24)).heap[W.heap.size]? = some (.cells #[.slice a l c] 24 (0, 0)) := heap_alloc_new W _
  have hof := of_any (W.alloc (.cells #[.slice a l c] 24)) lim a l c ds (row_lim hr (hb0.mono hl)) (by simp; omega) hf hf8
  have f0 : (W.alloc (.cells #[.slice a l c] 24)).cell? ⟨W.heap.size, 0, none⟩ = some (.slice a l c) := by rw [Lib.cell_of_heap hx0]; rfl
  have HB0 := Lib.hid hb0
  have hsz : (W.alloc (.cells #[.slice a l c] 24)).heap.size = W.heap.size + 1 := by simp
  clear hr hl hf hf8 hx0 hb0
  go_enter Try.func16, Try.ntmps16
  go_wp2_with (go_at_call 46; refine hof.mono ?_)
  rintro e W1 ⟨b, g1, g2, g3, rfl, hbk, hlb, hb1, m1, m2, m3, hg13⟩
  clear hof f0
  have hs1 := hb1.size
  have hc := chain_any W1 hbk (by omega) (fun k hk => by rcases hk with rfl | rfl | rfl; exact heap_lt m1; exact heap_lt m2; exact heap_lt m3) (.inr (.inr rfl)) m3 d hd
  clear hbk m1 m2 m3
  go_wp2_with (go_at_call 50; refine hc.mono ?_)
  rintro e W2 ⟨v, met, rfl, hown, -, hk⟩
  have HO := Lib.hid (own_mono hown (show W.heap.size ≤ W1.heap.size by omega))
  have HB := Lib.hid (HB0.out.trans ((hb1.trans (hk.below hs1)).mono (by omega)))
  clear hc hown hk
  go_wp2_with fail
  go_returns
  exact ⟨v, by simp, HO.out, HB.out⟩

set_option maxHeartbeats 1600000 in
set_option maxRecDepth 100000 in
theorem tfaces_any (W : World) (lim : Nat) (a : Option Addr) (l c : Nat) (ds : List DeclU) (hr : Row shDecl (fun k => k < lim) W a l ds) (hl : lim ≤ W.heap.size) (hf : l ≤ 16) (hf8 : Few ds) (d : Int) (hd : (Lit.int .i64 d).wf = true) :
    Calls Try.prog 17 #[.agg #[.slice a l c], .int .i64 d] W fun e W' => ∃ v, e = .returned v ∧ W'.ownsRow W.heap.size 3 1 v (facesU ds d).length ((facesU ds d).map iv) ∧ Below W.heap.size W W' := by
  have hb0 := (Below.refl W.heap.size W).alloc (Nat.le_refl _) (.cells #[.slice a l c] 24)
  have hx0 : (W.alloc (.cells #[.slice a l c] 24)).heap[W.heap.size]? = some (.cells #[.slice a l c] 24 (0, 0)) := heap_alloc_new W _
  have hof := of_any (W.alloc (.cells #[.slice a l c] 24)) lim a l c ds (row_lim hr (hb0.mono hl)) (by simp; omega) hf hf8
  have f0 : (W.alloc (.cells #[.slice a l c] 24)).cell? ⟨W.heap.size, 0, none⟩ = some (.slice a l c) := by rw [Lib.cell_of_heap hx0]; rfl
  have HB0 := Lib.hid hb0
  have hsz : (W.alloc (.cells #[.slice a l c] 24)).heap.size = W.heap.size + 1 := by simp
  clear hr hl hf hf8 hx0 hb0
  go_enter Try.func17, Try.ntmps17
  go_wp2_with (go_at_call 46; refine hof.mono ?_)
  rintro e W1 ⟨b, g1, g2, g3, rfl, hbk, hlb, hb1, m1, m2, m3, hg13⟩
  clear hof f0
  have hs1 := hb1.size
  have hc := faces_any W1 hbk (by omega) (fun k hk => by rcases hk with rfl | rfl | rfl; exact heap_lt m1; exact heap_lt m2; exact heap_lt m3) (.inr (.inr rfl)) m3 d hd
  clear hbk m1 m2 m3
  go_wp2_with (go_at_call 51; refine hc.mono ?_)
  rintro e W2 ⟨v, rfl, hown, hk⟩
  have HO := Lib.hid (own_mono hown (show W.heap.size ≤ W1.heap.size by omega))
  have HB := Lib.hid (HB0.out.trans ((hb1.trans hk).mono (by omega)))
  clear hc hown hk
  go_wp2_with fail
  go_returns
  exact ⟨v, by simp, HO.out, HB.out⟩

set_option maxHeartbeats 1600000 in
set_option maxRecDepth 100000 in
theorem tis_any (W : World) (lim : Nat) (a : Option Addr) (l c : Nat) (ds : List DeclU) (hr : Row shDecl (fun k => k < lim) W a l ds) (hl : lim ≤ W.heap.size) (hf : l ≤ 16) (hf8 : Few ds) (s u : ByteArray) (hs : s.size ≤ 1000) (hu : u.size ≤ 1000) :
    Calls Try.prog 24 #[.agg #[.slice a l c], .string s, .string u] W fun e W' => e = .returned (.bool (isU ds s u)) ∧ Below W.heap.size W W' := by
  have hb0 := (Below.refl W.heap.size W).alloc (Nat.le_refl _) (.cells #[.slice a l c] 24)
  have hx0 : (W.alloc (.cells #[.slice a l c] 24)).heap[W.heap.size]? = some (.cells #[.slice a l c] 24 (0, 0)) := heap_alloc_new W _
  have hof := of_any (W.alloc (.cells #[.slice a l c] 24)) lim a l c ds (row_lim hr (hb0.mono hl)) (by simp; omega) hf hf8
  have f0 : (W.alloc (.cells #[.slice a l c] 24)).cell? ⟨W.heap.size, 0, none⟩ = some (.slice a l c) := by rw [Lib.cell_of_heap hx0]; rfl
  have HB0 := Lib.hid hb0
  have hsz : (W.alloc (.cells #[.slice a l c] 24)).heap.size = W.heap.size + 1 := by simp
  clear hr hl hf hf8 hx0 hb0
  go_enter Try.func24, Try.ntmps24
  go_wp2_with (go_at_call 46; refine hof.mono ?_)
  rintro e W1 ⟨b, g1, g2, g3, rfl, hbk, hlb, hb1, m1, m2, m3, hg13⟩
  clear hof f0
  have hs1 := hb1.size
  have hc := is_any W1 hbk (by omega) (fun k hk => by rcases hk with rfl | rfl | rfl; exact heap_lt m1; exact heap_lt m2; exact heap_lt m3) (.inl rfl) m1 s u hs hu
  clear hbk m1 m2 m3
  go_wp2_with (go_at_call 54; refine hc.mono ?_)
  rintro e W2 ⟨rfl, hk⟩
  have HB := Lib.hid (HB0.out.trans ((hb1.trans hk).mono (by omega)))
  clear hc hk
  go_wp2_with fail
  go_returns
  exact ⟨rfl, HB.out⟩

end Go.Proofs.Ytnjfbcoddbeggaa
