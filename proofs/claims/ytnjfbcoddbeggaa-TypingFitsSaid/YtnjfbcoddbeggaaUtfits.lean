/-
  typing.Fits.
-/
import Derived.Test.YtnjfbcoddbeggaaUfits
import Derived.Test.YtnjfbcoddbeggaaUpto
namespace Go.Proofs.Ytnjfbcoddbeggaa
open Go Go.ChangeShapes Go.WideShapes Go.ChangeAt Go.RowKit Go.Joins

set_option maxHeartbeats 3200000 in
set_option maxRecDepth 100000 in
theorem tfits_any (W : World) (lim : Nat) (a : Option Addr) (l c : Nat) (ds : List DeclU) (hr : Row shDecl (fun k => k < lim) W a l ds) (hl : lim ≤ W.heap.size) (hf : l ≤ 16) (hf8 : Few ds) (x y : TypeU) (hs : x.name.size ≤ 1000) (hu : y.name.size ≤ 1000) :
    Calls Try.prog 32 #[.agg #[.slice a l c], .agg #[.int .i64 x.kind, .int .i64 x.lo, .int .i64 x.hi, .string x.name], .agg #[.int .i64 y.kind, .int .i64 y.lo, .int .i64 y.hi, .string y.name]] W fun e W' => e = .returned (.bool (fitsU ds x y)) ∧ Below W.heap.size W W' := by
  have hb2 := (Below.refl W.heap.size W).alloc (Nat.le_refl _) (.cells #[.slice a l c] 24)
  have hb1 := hb2.alloc (by simp) (.cells #[.int .i64 x.kind, .int .i64 x.lo, .int .i64 x.hi, .string x.name] 52)
  have hb0 := hb1.alloc (by simp; omega) (.cells #[.int .i64 y.kind, .int .i64 y.lo, .int .i64 y.hi, .string y.name] 52)
  have hx0 : (((W.alloc (.cells #[.slice a l c] 24)).alloc (.cells #[.int .i64 x.kind, .int .i64 x.lo, .int .i64 x.hi, .string x.name] 52)).alloc (.cells #[.int .i64 y.kind, .int .i64 y.lo, .int .i64 y.hi, .string y.name] 52)).heap[W.heap.size]? = some (.cells #[.slice a l c] 24 (0, 0)) := (heap_old (by simp; omega)).trans ((heap_old (by simp)).trans (heap_new rfl))
  have hx1 : (((W.alloc (.cells #[.slice a l c] 24)).alloc (.cells #[.int .i64 x.kind, .int .i64 x.lo, .int .i64 x.hi, .string x.name] 52)).alloc (.cells #[.int .i64 y.kind, .int .i64 y.lo, .int .i64 y.hi, .string y.name] 52)).heap[W.heap.size + 1]? = some (.cells #[.int .i64 x.kind, .int .i64 x.lo, .int .i64 x.hi, .string x.name] 52 (0, 0)) := (heap_old (by simp)).trans (heap_new (by simp))
  have hx2 : (((W.alloc (.cells #[.slice a l c] 24)).alloc (.cells #[.int .i64 x.kind, .int .i64 x.lo, .int .i64 x.hi, .string x.name] 52)).alloc (.cells #[.int .i64 y.kind, .int .i64 y.lo, .int .i64 y.hi, .string y.name] 52)).heap[W.heap.size + 2]? = some (.cells #[.int .i64 y.kind, .int .i64 y.lo, .int .i64 y.hi, .string y.name] 52 (0, 0)) := heap_new (by simp)
  have HB0 := Lib.hid hb0
  have hs0 : (((W.alloc (.cells #[.slice a l c] 24)).alloc (.cells #[.int .i64 x.kind, .int .i64 x.lo, .int .i64 x.hi, .string x.name] 52)).alloc (.cells #[.int .i64 y.kind, .int .i64 y.lo, .int .i64 y.hi, .string y.name] 52)).heap.size = W.heap.size + 3 := by simp
  have HOF := Lib.hid fun (V : World) (hb : Below W.heap.size W V) => of_any V lim a l c ds (row_lim hr (hb.mono hl)) (Nat.le_trans hl hb.size) hf hf8
  clear hr hl hf hf8 hb1 hb2 hb0
  go_enter Try.func32, Try.ntmps32
  go_upto_region 1 with fail
  generalize ((W.alloc (.cells #[.slice a l c] 24)).alloc (.cells #[.int .i64 x.kind, .int .i64 x.lo, .int .i64 x.hi, .string x.name] 52)).alloc (.cells #[.int .i64 y.kind, .int .i64 y.lo, .int .i64 y.hi, .string y.name] 52) = V0 at *
  have G1 := Lib.hid (show ∀ w', Below V0.heap.size V0 w' → w'.cell? ⟨W.heap.size, 0, none⟩ = some (.slice a l c) from fun w' h => by rw [Lib.cell_of_heap ((h.block _ (heap_lt hx0)).trans hx0)]; rfl)
  have G2 := Lib.hid (show ∀ w', Below V0.heap.size V0 w' → ∀ k v, (#[Value.int .i64 x.kind, .int .i64 x.lo, .int .i64 x.hi, .string x.name])[k]? = some v → w'.cell? ⟨W.heap.size + 1, k, none⟩ = some v from fun w' h k v hv => by rw [Lib.cell_of_heap ((h.block _ (heap_lt hx1)).trans hx1)]; exact hv)
  have G3 := Lib.hid (show ∀ w', Below V0.heap.size V0 w' → ∀ k v, (#[Value.int .i64 y.kind, .int .i64 y.lo, .int .i64 y.hi, .string y.name])[k]? = some v → w'.cell? ⟨W.heap.size + 2, k, none⟩ = some v from fun w' h k v hv => by rw [Lib.cell_of_heap ((h.block _ (heap_lt hx2)).trans hx2)]; exact hv)
  have HS0 := Lib.hid (show Below V0.heap.size V0 V0.drew from ⟨rfl, rfl, rfl, Nat.le_refl _, fun _ _ => rfl⟩)
  clear hx0 hx1 hx2
  refine AnyK.start 5 (fun w' => Below V0.heap.size V0 w') rfl HS0.out (fun _ => ?_)
  refine AnyK.take (oi := { dst := _, op := _, type := _, pos := _, after := _, guard := _ }) 0 ?_ rfl (by kernel_rfl) (fun _ _ _ h => h) (Or.inl ⟨by rfl, ?_⟩) HS0.out ?_
  rotate_left
  · (intro w' hS; have q0 := G1.out w' hS; have p0 := G2.out w' hS 0 _ rfl; have p1 := G2.out w' hS 1 _ rfl; have p2 := G2.out w' hS 2 _ rfl; have p3 := G2.out w' hS 3 _ rfl; have r0 := G3.out w' hS 0 _ rfl; have r1 := G3.out w' hS 1 _ rfl; have r2 := G3.out w' hS 2 _ rfl; have r3 := G3.out w' hS 3 _ rfl; clear hS; go_simp; with_reducible rfl)
  simp only [Act.put, List.setIfInBounds_toArray, List.set_cons_zero, List.set_cons_succ]
  refine AnyK.take (oi := { dst := _, op := _, type := _, pos := _, after := _, guard := _ }) 2 ?_ rfl (by kernel_rfl) (fun _ _ _ h => h) (Or.inl ⟨by rfl, ?_⟩) HS0.out ?_
  rotate_left
  · (intro w' hS; have q0 := G1.out w' hS; have p0 := G2.out w' hS 0 _ rfl; have p1 := G2.out w' hS 1 _ rfl; have p2 := G2.out w' hS 2 _ rfl; have p3 := G2.out w' hS 3 _ rfl; have r0 := G3.out w' hS 0 _ rfl; have r1 := G3.out w' hS 1 _ rfl; have r2 := G3.out w' hS 2 _ rfl; have r3 := G3.out w' hS 3 _ rfl; clear hS; go_simp; with_reducible rfl)
  simp only [Act.put, List.setIfInBounds_toArray, List.set_cons_zero, List.set_cons_succ]
  refine AnyK.take (oi := { dst := _, op := _, type := _, pos := _, after := _, guard := _ }) 3 ?_ rfl (by kernel_rfl) (fun _ _ _ h => h) (Or.inl ⟨by rfl, ?_⟩) HS0.out ?_
  rotate_left
  · (intro w' hS; have q0 := G1.out w' hS; have p0 := G2.out w' hS 0 _ rfl; have p1 := G2.out w' hS 1 _ rfl; have p2 := G2.out w' hS 2 _ rfl; have p3 := G2.out w' hS 3 _ rfl; have r0 := G3.out w' hS 0 _ rfl; have r1 := G3.out w' hS 1 _ rfl; have r2 := G3.out w' hS 2 _ rfl; have r3 := G3.out w' hS 3 _ rfl; clear hS; go_simp; with_reducible rfl)
  simp only [Act.put, List.setIfInBounds_toArray, List.set_cons_zero, List.set_cons_succ]
  have HC9 := Lib.hid (HOF.out _ (HB0.out.trans (HS0.out.mono (by omega))))
  refine AnyK.one 1 (by kernel_rfl) rfl (fun KK hK => ?_)
  go_simp
  refine HC9.out.mono ?_
  rintro e U1 ⟨b, g1, g2, g3, rfl, hbk, hlb, hb1, m1, m2, m3, hg13⟩
  have hds : V0.drew.heap.size = V0.heap.size := rfl
  have HS1 := Lib.hid (HS0.out.trans (hb1.mono (by omega)))
  have HU1 := Lib.hid (HB0.out.trans (HS1.out.mono (by omega)))
  have hc := bfits_any U1 hbk (by omega) (fun k hk => by rcases hk with rfl | rfl | rfl; exact heap_lt m1; exact heap_lt m2; exact heap_lt m3) (.inl rfl) m1 x y hs hu
  have hlo := hbk.bk.1.lob
  clear hbk m1 m2 m3 hb1
  refine hK _ _ HS1.out ?_
  clear hK
  refine AnyK.one 4 (by kernel_rfl) rfl (fun KK hK => ?_)
  go_simp
  refine hc.mono ?_
  rintro e U2 ⟨rfl, hb⟩
  have hss := hb.size
  have HS2 := Lib.hid (HS1.out.trans (hb.mono (by omega)))
  have HU2 := Lib.hid (HU1.out.trans (hb.mono (by omega)))
  clear hb hc
  refine hK _ _ HS2.out ?_
  clear hK
  refine AnyK.late 5 (by kernel_rfl) (by kernel_rfl) rfl (fun KK hK => ?_)
  go_simp
  refine hK _ _ ?_
  clear hK
  refine AnyK.done (by kernel_rfl) ?_ _
  go_wp2_with fail
  go_returns
  exact ⟨rfl, HU2.out⟩

end Go.Proofs.Ytnjfbcoddbeggaa
