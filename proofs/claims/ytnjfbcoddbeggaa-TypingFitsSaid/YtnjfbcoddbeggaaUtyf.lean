/-
  TypingFits: the walk.
-/
import Derived.Test.YtnjfbcoddbeggaaUtfits
import Derived.Test.YtnjfbcoddbeggaaAwakeY
import Derived.Test.YtnjfbcoddbeggaaUgreat2
namespace Go.Proofs.Ytnjfbcoddbeggaa
open Go Go.ChangeShapes Go.WideShapes Go.ChangeAt Go.RowKit Go.Joins
section
variable {P : Program} {ops : Array Oper} {Q : Exit → Act → World → Prop} {md : Region.Mode} {S : World → Prop} {s : Nat}
/-- one of two operations comes up, ahead of s -/
theorem AnyK.two (i i' : Nat) {o o' : Oper} {n : Nat} {l : Array Bool} {a : Act} {w : World} (hr : Region.ready md ops l = [i, i']) (ho : ops[i]? = some o) (ho' : ops[i']? = some o')
    (h : ∀ K' : Act → World → Prop, (∀ a w, S w → AnyK P md ops Q s S n (l.setIfInBounds i true) a w → K' a w) → if Region.wanted o (yielded ops a.tmps) = true then Oper.wp P o a w K' Q else K' (a.put o.dst undef) w)
    (h' : ∀ K' : Act → World → Prop, (∀ a w, S w → AnyK P md ops Q s S n (l.setIfInBounds i' true) a w → K' a w) → if Region.wanted o' (yielded ops a.tmps) = true then Oper.wp P o' a w K' Q else K' (a.put o'.dst undef) w) :
    AnyK P md ops Q s S (n + 1) l a w := by
  refine ⟨fun h0 => (by rw [hr] at h0; cases h0), fun j hj => ?_⟩
  rw [hr] at hj
  rcases (by simpa using hj : j = i ∨ j = i') with rfl | rfl
  · exact wpOp_step ho (fun K' hK => h K' (fun a w hS hA => hK a w ⟨fun _ => hS, hA⟩))
  · exact wpOp_step ho' (fun K' hK => h' K' (fun a w hS hA => hK a w ⟨fun _ => hS, hA⟩))
end

theorem fits_nil (ds : List DeclU) (s : ByteArray) : fitsU ds ⟨5, 0, 0, s⟩ ⟨5, 0, 0, ⟨#[]⟩⟩ = true := by simp [fitsU]
theorem fits_self (ds : List DeclU) (s : ByteArray) : fitsU ds ⟨5, 0, 0, s⟩ ⟨5, 0, 0, s⟩ = true := by simp [fitsU]
theorem fits_five (ds : List DeclU) (s u : ByteArray) (h : u ≠ ⟨#[]⟩) : fitsU ds ⟨5, 0, 0, s⟩ ⟨5, 0, 0, u⟩ = (decide (u = s) || isU ds u s) := by
  have h1 : decide (u = ⟨#[]⟩) = false := decide_eq_false h
  simp [fitsU, h]
theorem fits_trans {ds : List DeclU} {a b c : ByteArray} (hb : b ≠ ⟨#[]⟩) (hc : c ≠ ⟨#[]⟩) (h1 : fitsU ds ⟨5, 0, 0, a⟩ ⟨5, 0, 0, b⟩ = true) (h2 : fitsU ds ⟨5, 0, 0, b⟩ ⟨5, 0, 0, c⟩ = true) : fitsU ds ⟨5, 0, 0, a⟩ ⟨5, 0, 0, c⟩ = true := by
  rw [fits_five _ _ _ hb] at h1
  rw [fits_five _ _ _ hc] at h2 ⊢
  rw [Bool.or_eq_true, decide_eq_true_iff] at h1 h2 ⊢
  rcases h1 with rfl | h1
  · exact h2
  rcases h2 with rfl | h2
  · exact .inr h1
  · exact .inr (is_trans h2 h1)

set_option maxHeartbeats 6400000 in
set_option maxRecDepth 100000 in
theorem typingFits_any (haw : ∀ w, Calls Try.prog 31 #[] w fun e w' => e = .returned (.bool true) ∧ Below w.heap.size w w') (W : World) (a : Option Addr) (l c : Nat) (ds : List DeclU) (hr : Row shDecl (fun k => k < W.heap.size) W a l ds) (x y : TypeU) (i j k : Int) :
    Calls Try.prog 6 #[.agg #[.slice a l c], .agg #[.int .i64 x.kind, .int .i64 x.lo, .int .i64 x.hi, .string x.name], .agg #[.int .i64 y.kind, .int .i64 y.lo, .int .i64 y.hi, .string y.name], .int .i64 i, .int .i64 j, .int .i64 k] W fun e W' => e = .returned (.bool true) ∧ Below W.heap.size W W' := by
  have hml : l ≤ 9223372036854775807 := by have := hr.le; unfold maxLen at this; omega
  have hb2 := (Below.refl W.heap.size W).alloc (Nat.le_refl _) (.cells #[.slice a l c] 24)
  have hb1 := hb2.alloc (by simp) (.cells #[.int .i64 x.kind, .int .i64 x.lo, .int .i64 x.hi, .string x.name] 52)
  have hb0 := hb1.alloc (by simp; omega) (.cells #[.int .i64 y.kind, .int .i64 y.lo, .int .i64 y.hi, .string y.name] 52)
  have hx0 : (((W.alloc (.cells #[.slice a l c] 24)).alloc (.cells #[.int .i64 x.kind, .int .i64 x.lo, .int .i64 x.hi, .string x.name] 52)).alloc (.cells #[.int .i64 y.kind, .int .i64 y.lo, .int .i64 y.hi, .string y.name] 52)).heap[W.heap.size]? = some (.cells #[.slice a l c] 24 (0, 0)) := (heap_old (by simp; omega)).trans ((heap_old (by simp)).trans (heap_new rfl))
  have hx1 : (((W.alloc (.cells #[.slice a l c] 24)).alloc (.cells #[.int .i64 x.kind, .int .i64 x.lo, .int .i64 x.hi, .string x.name] 52)).alloc (.cells #[.int .i64 y.kind, .int .i64 y.lo, .int .i64 y.hi, .string y.name] 52)).heap[W.heap.size + 1]? = some (.cells #[.int .i64 x.kind, .int .i64 x.lo, .int .i64 x.hi, .string x.name] 52 (0, 0)) := (heap_old (by simp)).trans (heap_new (by simp))
  have hx2 : (((W.alloc (.cells #[.slice a l c] 24)).alloc (.cells #[.int .i64 x.kind, .int .i64 x.lo, .int .i64 x.hi, .string x.name] 52)).alloc (.cells #[.int .i64 y.kind, .int .i64 y.lo, .int .i64 y.hi, .string y.name] 52)).heap[W.heap.size + 2]? = some (.cells #[.int .i64 y.kind, .int .i64 y.lo, .int .i64 y.hi, .string y.name] 52 (0, 0)) := heap_new (by simp)
  have hs0 : (((W.alloc (.cells #[.slice a l c] 24)).alloc (.cells #[.int .i64 x.kind, .int .i64 x.lo, .int .i64 x.hi, .string x.name] 52)).alloc (.cells #[.int .i64 y.kind, .int .i64 y.lo, .int .i64 y.hi, .string y.name] 52)).heap.size = W.heap.size + 3 := by simp
  have hgr := great_any W.heap.size (((W.alloc (.cells #[.slice a l c] 24)).alloc (.cells #[.int .i64 x.kind, .int .i64 x.lo, .int .i64 x.hi, .string x.name] 52)).alloc (.cells #[.int .i64 y.kind, .int .i64 y.lo, .int .i64 y.hi, .string y.name] 52)) a l c 200 ds (row_lim hr hb0) (by rw [hs0]; omega)
  have HR := Lib.hid hr
  have HB0 := Lib.hid hb0
  have HAW := Lib.hid haw
  clear hr hb0 hb1 hb2 haw
  go_enter Try.func6, Try.ntmps6
  go_upto_region 1 with fail
  generalize (((W.alloc (.cells #[.slice a l c] 24)).alloc (.cells #[.int .i64 x.kind, .int .i64 x.lo, .int .i64 x.hi, .string x.name] 52)).alloc (.cells #[.int .i64 y.kind, .int .i64 y.lo, .int .i64 y.hi, .string y.name] 52)) = V0 at *
  have f0 : V0.cell? ⟨W.heap.size, 0, none⟩ = some (.slice a l c) := by rw [Lib.cell_of_heap hx0]; rfl
  have HX0 := Lib.hid hx0
  have HX1 := Lib.hid hx1
  have HX2 := Lib.hid hx2
  clear hx0 hx1 hx2
  go_wp2_with (go_at_call 11; refine hgr.mono ?_)
  rintro e V1 ⟨β, rfl, hfew, hb1⟩
  clear hgr f0
  have HB1 := Lib.hid (HB0.out.trans (hb1.mono (by rw [hs0]; omega)))
  have HX0 := Lib.hid ((hb1.block _ (heap_lt HX0.out)).trans HX0.out)
  have HX1 := Lib.hid ((hb1.block _ (heap_lt HX1.out)).trans HX1.out)
  have HX2 := Lib.hid ((hb1.block _ (heap_lt HX2.out)).trans HX2.out)
  have HF1 := Lib.hid hfew
  have hs1 := hb1.size
  rw [hs0] at hs1
  clear hb1 hfew
  cases β with
  | true =>
    go_wp2_with (go_at_call 31; refine (HAW.out _).mono ?_)
    rintro e V2 ⟨rfl, hb2⟩
    have HB2 := Lib.hid (HB1.out.trans (hb2.mono HB1.out.size))
    clear hb2
    go_wp2_with fail
    go_returns
    exact ⟨rfl, HB2.out⟩
  | false =>
  obtain ⟨hl16, hf8⟩ := HF1.out rfl
  have HF8 := Lib.hid hf8
  clear HF1 hf8
  have q1 : V1.cell? ⟨W.heap.size + 1, 3, none⟩ = some (.string x.name) := by rw [Lib.cell_of_heap HX1.out]; rfl
  have q2 : V1.cell? ⟨W.heap.size + 2, 3, none⟩ = some (.string y.name) := by rw [Lib.cell_of_heap HX2.out]; rfl
  by_cases hx60 : 60 < x.name.size
  · have n1 : decide ((60 : Int) < (x.name.size : Int)) = true := decide_eq_true (by omega)
    have n2 : decide (60 < x.name.size) = true := decide_eq_true (by omega)
    go_wp2_with (go_at_call 31; refine (HAW.out _).mono ?_)
    rintro e V2 ⟨rfl, hb2⟩
    have HB2 := Lib.hid (HB1.out.trans (hb2.mono HB1.out.size))
    clear hb2
    go_wp2_with fail
    go_returns
    exact ⟨rfl, HB2.out⟩
  have n1 : decide ((60 : Int) < (x.name.size : Int)) = false := decide_eq_false (by omega)
  have n2 : decide (60 < x.name.size) = false := decide_eq_false (by omega)
  by_cases hy60 : 60 < y.name.size
  · have n3 : decide ((60 : Int) < (y.name.size : Int)) = true := decide_eq_true (by omega)
    have n4 : decide (60 < y.name.size) = true := decide_eq_true (by omega)
    go_wp2_with (go_at_call 31; refine (HAW.out _).mono ?_)
    rintro e V2 ⟨rfl, hb2⟩
    have HB2 := Lib.hid (HB1.out.trans (hb2.mono HB1.out.size))
    clear hb2
    go_wp2_with fail
    go_returns
    exact ⟨rfl, HB2.out⟩
  have n3 : decide ((60 : Int) < (y.name.size : Int)) = false := decide_eq_false (by omega)
  have n4 : decide (60 < y.name.size) = false := decide_eq_false (by omega)
  go_upto_region 3 with fail
  clear q1 q2 n1 n2 n3 n4
  have G1 := Lib.hid (show ∀ w', Below V1.heap.size V1 w' → w'.cell? ⟨W.heap.size, 0, none⟩ = some (.slice a l c) from fun w' h => by rw [Lib.cell_of_heap ((h.block _ (heap_lt HX0.out)).trans HX0.out)]; rfl)
  have G2 := Lib.hid (show ∀ w', Below V1.heap.size V1 w' → ∀ k v, (#[Value.int .i64 x.kind, .int .i64 x.lo, .int .i64 x.hi, .string x.name])[k]? = some v → w'.cell? ⟨W.heap.size + 1, k, none⟩ = some v from fun w' h k v hv => by rw [Lib.cell_of_heap ((h.block _ (heap_lt HX1.out)).trans HX1.out)]; exact hv)
  have G3 := Lib.hid (show ∀ w', Below V1.heap.size V1 w' → ∀ k v, (#[Value.int .i64 y.kind, .int .i64 y.lo, .int .i64 y.hi, .string y.name])[k]? = some v → w'.cell? ⟨W.heap.size + 2, k, none⟩ = some v from fun w' h k v hv => by rw [Lib.cell_of_heap ((h.block _ (heap_lt HX2.out)).trans HX2.out)]; exact hv)
  have HS0 := Lib.hid (show Below V1.heap.size V1 V1.drew from ⟨rfl, rfl, rfl, Nat.le_refl _, fun _ _ => rfl⟩)
  have HTF := Lib.hid fun (V : World) (hb : Below W.heap.size W V) (s u : TypeU) (hs : s.name.size ≤ 1000) (hu : u.name.size ≤ 1000) => tfits_any V W.heap.size a l c ds (row_lim HR.out hb) hb.size hl16 HF8.out s u hs hu
  have HRF := Lib.hid fun (V : World) (hb : Below V1.heap.size V1 V) => rfits_any V W.heap.size a l c ds (row_lim HR.out (HB1.out.trans (hb.mono HB1.out.size))) (Nat.le_trans HB1.out.size hb.size) hl16 HF8.out x y
  have HTX := Lib.hid fun (V : World) (hb : Below V1.heap.size V1 V) => HTF.out V (HB1.out.trans (hb.mono HB1.out.size)) x y (by omega) (by omega)
  go_cut [41] from 33 to 40 (fun v wx => v = .bool false ∧ Below V1.heap.size V1 wx)
  case first =>
    generalize fitsU ds x y = β at *
    have hnn : (β != β) = false := by cases β <;> rfl
    refine AnyK.start 8 (fun w' => Below V1.heap.size V1 w') rfl HS0.out (fun _ => ?_)
    refine AnyK.take (oi := { dst := _, op := _, type := _, pos := _, after := _, guard := _ }) 0 ?_ rfl (by kernel_rfl) (fun _ _ _ h => h) (Or.inl ⟨by rfl, ?_⟩) HS0.out ?_
    rotate_left
    · (intro w' hS; have q0 := G1.out w' hS; have p0 := G2.out w' hS 0 _ rfl; have p1 := G2.out w' hS 1 _ rfl; have p2 := G2.out w' hS 2 _ rfl; have p3 := G2.out w' hS 3 _ rfl; have r0 := G3.out w' hS 0 _ rfl; have r1 := G3.out w' hS 1 _ rfl; have r2 := G3.out w' hS 2 _ rfl; have r3 := G3.out w' hS 3 _ rfl; clear hS; go_simp; with_reducible rfl)
    simp only [Act.put, List.setIfInBounds_toArray, List.set_cons_zero, List.set_cons_succ]
    refine AnyK.take (oi := { dst := _, op := _, type := _, pos := _, after := _, guard := _ }) 1 ?_ rfl (by kernel_rfl) (fun _ _ _ h => h) (Or.inl ⟨by rfl, ?_⟩) HS0.out ?_
    rotate_left
    · (intro w' hS; have q0 := G1.out w' hS; have p0 := G2.out w' hS 0 _ rfl; have p1 := G2.out w' hS 1 _ rfl; have p2 := G2.out w' hS 2 _ rfl; have p3 := G2.out w' hS 3 _ rfl; have r0 := G3.out w' hS 0 _ rfl; have r1 := G3.out w' hS 1 _ rfl; have r2 := G3.out w' hS 2 _ rfl; have r3 := G3.out w' hS 3 _ rfl; clear hS; go_simp; with_reducible rfl)
    simp only [Act.put, List.setIfInBounds_toArray, List.set_cons_zero, List.set_cons_succ]
    refine AnyK.take (oi := { dst := _, op := _, type := _, pos := _, after := _, guard := _ }) 2 ?_ rfl (by kernel_rfl) (fun _ _ _ h => h) (Or.inl ⟨by rfl, ?_⟩) HS0.out ?_
    rotate_left
    · (intro w' hS; have q0 := G1.out w' hS; have p0 := G2.out w' hS 0 _ rfl; have p1 := G2.out w' hS 1 _ rfl; have p2 := G2.out w' hS 2 _ rfl; have p3 := G2.out w' hS 3 _ rfl; have r0 := G3.out w' hS 0 _ rfl; have r1 := G3.out w' hS 1 _ rfl; have r2 := G3.out w' hS 2 _ rfl; have r3 := G3.out w' hS 3 _ rfl; clear hS; go_simp; with_reducible rfl)
    simp only [Act.put, List.setIfInBounds_toArray, List.set_cons_zero, List.set_cons_succ]
    refine AnyK.take (oi := { dst := _, op := _, type := _, pos := _, after := _, guard := _ }) 4 ?_ rfl (by kernel_rfl) (fun _ _ _ h => h) (Or.inl ⟨by rfl, ?_⟩) HS0.out ?_
    rotate_left
    · (intro w' hS; have q0 := G1.out w' hS; have p0 := G2.out w' hS 0 _ rfl; have p1 := G2.out w' hS 1 _ rfl; have p2 := G2.out w' hS 2 _ rfl; have p3 := G2.out w' hS 3 _ rfl; have r0 := G3.out w' hS 0 _ rfl; have r1 := G3.out w' hS 1 _ rfl; have r2 := G3.out w' hS 2 _ rfl; have r3 := G3.out w' hS 3 _ rfl; clear hS; go_simp; with_reducible rfl)
    simp only [Act.put, List.setIfInBounds_toArray, List.set_cons_zero, List.set_cons_succ]
    refine AnyK.take (oi := { dst := _, op := _, type := _, pos := _, after := _, guard := _ }) 5 ?_ rfl (by kernel_rfl) (fun _ _ _ h => h) (Or.inl ⟨by rfl, ?_⟩) HS0.out ?_
    rotate_left
    · (intro w' hS; have q0 := G1.out w' hS; have p0 := G2.out w' hS 0 _ rfl; have p1 := G2.out w' hS 1 _ rfl; have p2 := G2.out w' hS 2 _ rfl; have p3 := G2.out w' hS 3 _ rfl; have r0 := G3.out w' hS 0 _ rfl; have r1 := G3.out w' hS 1 _ rfl; have r2 := G3.out w' hS 2 _ rfl; have r3 := G3.out w' hS 3 _ rfl; clear hS; go_simp; with_reducible rfl)
    simp only [Act.put, List.setIfInBounds_toArray, List.set_cons_zero, List.set_cons_succ]
    refine AnyK.take (oi := { dst := _, op := _, type := _, pos := _, after := _, guard := _ }) 6 ?_ rfl (by kernel_rfl) (fun _ _ _ h => h) (Or.inl ⟨by rfl, ?_⟩) HS0.out ?_
    rotate_left
    · (intro w' hS; have q0 := G1.out w' hS; have p0 := G2.out w' hS 0 _ rfl; have p1 := G2.out w' hS 1 _ rfl; have p2 := G2.out w' hS 2 _ rfl; have p3 := G2.out w' hS 3 _ rfl; have r0 := G3.out w' hS 0 _ rfl; have r1 := G3.out w' hS 1 _ rfl; have r2 := G3.out w' hS 2 _ rfl; have r3 := G3.out w' hS 3 _ rfl; clear hS; go_simp; with_reducible rfl)
    simp only [Act.put, List.setIfInBounds_toArray, List.set_cons_zero, List.set_cons_succ]
    have HC9 := Lib.hid (HTX.out _ HS0.out)
    refine AnyK.one 3 (by kernel_rfl) rfl (fun KK hK => ?_)
    go_simp
    refine HC9.out.mono ?_
    rintro e U1 ⟨rfl, hb⟩
    have HS1 := Lib.hid (HS0.out.trans (hb.mono HS0.out.size))
    clear hb
    refine hK _ _ HS1.out ?_
    clear hK HC9
    have HC9 := Lib.hid (HRF.out _ HS1.out)
    refine AnyK.one 7 (by kernel_rfl) rfl (fun KK hK => ?_)
    go_simp
    refine HC9.out.mono ?_
    rintro e U2 ⟨rfl, hb⟩
    have HS2 := Lib.hid (HS1.out.trans (hb.mono HS1.out.size))
    clear hb
    refine hK _ _ HS2.out ?_
    clear hK
    refine AnyK.late 8 (by kernel_rfl) (by kernel_rfl) rfl (fun KK hK => ?_)
    go_simp
    refine hK _ _ ?_
    clear hK
    refine AnyK.done (by kernel_rfl) ?_ _
    go_wp2_with fail
    go_meet
    exact ⟨rfl, HS2.out⟩
  case rest =>
  obtain ⟨rfl, hb3⟩ := hcut
  have HB3 := Lib.hid (HB1.out.trans (hb3.mono HB1.out.size))
  have HX3 := Lib.hid ((hb3.block _ (heap_lt HX0.out)).trans HX0.out)
  clear HX0 HX1 HX2 G1 G2 G3 HS0 HRF HTX hb3 HB1 hs1 HB0 hs0
  obtain ⟨V3, hV3⟩ : ∃ V, V = wc := ⟨_, rfl⟩
  subst hV3
  have f3 : V3.cell? ⟨W.heap.size, 0, none⟩ = some (.slice a l c) := by rw [Lib.cell_of_heap HX3.out]; rfl
  cases hl0 : ((l : Int) == 0) with
  | true =>
    go_wp2_with (go_at_call 31; refine (HAW.out _).mono ?_)
    rintro e V2 ⟨rfl, hb2⟩
    have HB2 := Lib.hid (HB3.out.trans (hb2.mono HB3.out.size))
    clear hb2
    go_wp2_with fail
    go_returns
    exact ⟨rfl, HB2.out⟩
  | false =>
  have hlp : 1 ≤ l := by
    rcases Nat.eq_zero_or_pos l with h | h
    · subst h; simp at hl0
    · exact h
  have hdl : ds.length = l := HR.out.1
  have hll : (1 : Int) ≤ (l : Int) := by omega
  have hll2 : (l : Int) ≤ 10000000000000 := by omega
  go_upto_region 8 with fail
  obtain ⟨bb, oo, x0_, vs_, rfl, _, _, _, _⟩ := (row_lim HR.out HB3.out).item (show 0 < l by omega)
  clear f3
  obtain ⟨ka, hka⟩ : ∃ m : Nat, low i l = (m : Int) := ⟨(low i l).toNat, by have := low_bd i l hll; unfold low; omega⟩
  have hkal : ka < l := by have := low_bd i l hll; unfold low at hka; omega
  have pa0 : (0 : Int) ≤ (ka : Int) := by omega
  have pa1 : (ka : Int) < (l : Int) := by omega
  have pa2 : decide ((ka : Int) < 0) = false := decide_eq_false (by omega)
  have pa3 : decide ((l : Int) ≤ (ka : Int)) = false := decide_eq_false (by omega)
  have pa4 : decide (l ≤ ka) = false := decide_eq_false (by omega)
  obtain ⟨ba, oa, xa, vsa, hea, _, hxa, hca, hIa⟩ := (row_lim HR.out HB3.out).item hkal
  cases hea
  obtain ⟨a3, l3, c3, a6, l6, c6, a7, l7, c7, d8, a8, l8, c8, rfl, -⟩ := decl_is.1 hIa
  have ea : V3.cell? ⟨bb, oo + ka * 11 + 1, none⟩ = some (.string xa.name) := hca 1 _ rfl
  have HNa := Lib.hid (show xa.name.size ≤ 1000 by have := (HF8.out _ _ hxa).2; omega)
  have bal := World.block_lt_of_cell? _ _ ea
  have G1 := Lib.hid (show ∀ w', Below V3.heap.size V3 w' → w'.cell? ⟨W.heap.size, 0, none⟩ = some (.slice (some ⟨bb, oo, none⟩) l c) from fun w' h => by rw [Lib.cell_of_heap ((h.block _ (heap_lt HX3.out)).trans HX3.out)]; rfl)
  have G2 := Lib.hid (show ∀ w', Below V3.heap.size V3 w' → w'.cell? ⟨bb, oo + ka * 11 + 1, none⟩ = some (.string xa.name) from fun w' h => (h.cell bal).trans ea)
  have HS0 := Lib.hid (show Below V3.heap.size V3 V3.drew from ⟨rfl, rfl, rfl, Nat.le_refl _, fun _ _ => rfl⟩)
  have HLW := Lib.hid (show ∀ w, Calls Try.prog 13 #[.int .i64 i, .int .i64 l] w fun e w' => e = .returned (.int .i64 (ka : Int)) ∧ w' = w from fun w => by have := low_any i l hll hll2 w; rw [hka] at this; exact this)
  clear hca hIa hxa ea bal hka
  go_cut [14] from 48 to 56 (fun v wx => ∃ p, v = .pointer (some ⟨p, 0, none⟩) ∧ wx.heap[p]? = some (.cells #[.int .i64 5, .int .i64 0, .int .i64 0, .string xa.name] 52 (0, 0)) ∧ Below V3.heap.size V3 wx)
  case first =>
    refine AnyK.start 10 (fun w' => Below V3.heap.size V3 w') rfl HS0.out (fun _ => ?_)
    refine AnyK.take (oi := { dst := _, op := _, type := _, pos := _, after := _, guard := _ }) 0 ?_ rfl (by kernel_rfl) (fun _ _ _ h => h) (Or.inl ⟨by rfl, ?_⟩) HS0.out ?_
    rotate_left
    · (intro w' hS; have q1 := G1.out w' hS; have q2 := G2.out w' hS; clear hS; go_simp; with_reducible rfl)
    simp only [Act.put, List.setIfInBounds_toArray, List.set_cons_zero, List.set_cons_succ]
    refine AnyK.take (oi := { dst := _, op := _, type := _, pos := _, after := _, guard := _ }) 1 ?_ rfl (by kernel_rfl) (fun _ _ _ h => h) (Or.inl ⟨by rfl, ?_⟩) HS0.out ?_
    rotate_left
    · (intro w' hS; have q1 := G1.out w' hS; have q2 := G2.out w' hS; clear hS; go_simp; with_reducible rfl)
    simp only [Act.put, List.setIfInBounds_toArray, List.set_cons_zero, List.set_cons_succ]
    refine AnyK.take (oi := { dst := _, op := _, type := _, pos := _, after := _, guard := _ }) 2 ?_ rfl (by kernel_rfl) (fun _ _ _ h => h) (Or.inl ⟨by rfl, ?_⟩) HS0.out ?_
    rotate_left
    · (intro w' hS; have q1 := G1.out w' hS; have q2 := G2.out w' hS; clear hS; go_simp; with_reducible rfl)
    simp only [Act.put, List.setIfInBounds_toArray, List.set_cons_zero, List.set_cons_succ]
    refine AnyK.take (oi := { dst := _, op := _, type := _, pos := _, after := _, guard := _ }) 3 ?_ rfl (by kernel_rfl) (fun _ _ _ h => h) (Or.inl ⟨by rfl, ?_⟩) HS0.out ?_
    rotate_left
    · (intro w' hS; have q1 := G1.out w' hS; have q2 := G2.out w' hS; clear hS; go_simp; with_reducible rfl)
    simp only [Act.put, List.setIfInBounds_toArray, List.set_cons_zero, List.set_cons_succ]
    refine AnyK.two 4 9 (by kernel_rfl) rfl rfl (fun KK hK => ?_) (fun KK hK => ?_)
    · go_simp
      refine (HLW.out _).mono ?_
      rintro e U1 ⟨rfl, rfl⟩
      refine hK _ _ HS0.out ?_
      clear hK
      refine AnyK.take (oi := { dst := _, op := _, type := _, pos := _, after := _, guard := _ }) 5 ?_ rfl (by kernel_rfl) (fun _ _ _ h => h) (Or.inl ⟨by rfl, ?_⟩) HS0.out ?_
      rotate_left
      · (intro w' hS; have q1 := G1.out w' hS; have q2 := G2.out w' hS; clear hS; go_simp; with_reducible rfl)
      simp only [Act.put, List.setIfInBounds_toArray, List.set_cons_zero, List.set_cons_succ]
      refine AnyK.take (oi := { dst := _, op := _, type := _, pos := _, after := _, guard := _ }) 6 ?_ rfl (by kernel_rfl) (fun _ _ _ h => h) (Or.inl ⟨by rfl, ?_⟩) HS0.out ?_
      rotate_left
      · (intro w' hS; have q1 := G1.out w' hS; have q2 := G2.out w' hS; clear hS; go_simp; with_reducible rfl)
      simp only [Act.put, List.setIfInBounds_toArray, List.set_cons_zero, List.set_cons_succ]
      refine AnyK.take (oi := { dst := _, op := _, type := _, pos := _, after := _, guard := _ }) 7 ?_ rfl (by kernel_rfl) (fun _ _ _ h => h) (Or.inl ⟨by rfl, ?_⟩) HS0.out ?_
      rotate_left
      · (intro w' hS; have q1 := G1.out w' hS; have q2 := G2.out w' hS; clear hS; go_simp; with_reducible rfl)
      simp only [Act.put, List.setIfInBounds_toArray, List.set_cons_zero, List.set_cons_succ]
      refine AnyK.take (oi := { dst := _, op := _, type := _, pos := _, after := _, guard := _ }) 8 ?_ rfl (by kernel_rfl) (fun _ _ _ h => h) (Or.inl ⟨by rfl, ?_⟩) HS0.out ?_
      rotate_left
      · (intro w' hS; have q1 := G1.out w' hS; have q2 := G2.out w' hS; clear hS; go_simp; with_reducible rfl)
      simp only [Act.put, List.setIfInBounds_toArray, List.set_cons_zero, List.set_cons_succ]
      refine AnyK.one 9 (by kernel_rfl) rfl (fun KK hK => ?_)
      go_simp
      refine hK _ _ (HS0.out.alloc (Nat.le_refl _) _) ?_
      clear hK
      refine AnyK.late 10 (by kernel_rfl) (by kernel_rfl) rfl (fun KK hK => ?_)
      go_simp
      refine hK _ _ ?_
      clear hK
      refine AnyK.done (by kernel_rfl) ?_ _
      go_wp2_with fail
      go_meet
      exact ⟨V3.heap.size, rfl, heap_new rfl, HS0.out.alloc (Nat.le_refl _) _⟩
    · go_simp
      refine hK _ _ (HS0.out.alloc (Nat.le_refl _) _) ?_
      clear hK
      have HS1 := Lib.hid (HS0.out.alloc (Nat.le_refl _) (.cells #[.int .i64 0, .int .i64 0, .int .i64 0, .string ⟨#[]⟩] 52))
      refine AnyK.one 4 (by kernel_rfl) rfl (fun KK hK => ?_)
      go_simp
      refine (HLW.out _).mono ?_
      rintro e U1 ⟨rfl, rfl⟩
      refine hK _ _ HS1.out ?_
      clear hK
      refine AnyK.take (oi := { dst := _, op := _, type := _, pos := _, after := _, guard := _ }) 5 ?_ rfl (by kernel_rfl) (fun _ _ _ h => h) (Or.inl ⟨by rfl, ?_⟩) HS1.out ?_
      rotate_left
      · (intro w' hS; have q1 := G1.out w' hS; have q2 := G2.out w' hS; clear hS; go_simp; with_reducible rfl)
      simp only [Act.put, List.setIfInBounds_toArray, List.set_cons_zero, List.set_cons_succ]
      refine AnyK.take (oi := { dst := _, op := _, type := _, pos := _, after := _, guard := _ }) 6 ?_ rfl (by kernel_rfl) (fun _ _ _ h => h) (Or.inl ⟨by rfl, ?_⟩) HS1.out ?_
      rotate_left
      · (intro w' hS; have q1 := G1.out w' hS; have q2 := G2.out w' hS; clear hS; go_simp; with_reducible rfl)
      simp only [Act.put, List.setIfInBounds_toArray, List.set_cons_zero, List.set_cons_succ]
      refine AnyK.take (oi := { dst := _, op := _, type := _, pos := _, after := _, guard := _ }) 7 ?_ rfl (by kernel_rfl) (fun _ _ _ h => h) (Or.inl ⟨by rfl, ?_⟩) HS1.out ?_
      rotate_left
      · (intro w' hS; have q1 := G1.out w' hS; have q2 := G2.out w' hS; clear hS; go_simp; with_reducible rfl)
      simp only [Act.put, List.setIfInBounds_toArray, List.set_cons_zero, List.set_cons_succ]
      refine AnyK.take (oi := { dst := _, op := _, type := _, pos := _, after := _, guard := _ }) 8 ?_ rfl (by kernel_rfl) (fun _ _ _ h => h) (Or.inl ⟨by rfl, ?_⟩) HS1.out ?_
      rotate_left
      · (intro w' hS; have q1 := G1.out w' hS; have q2 := G2.out w' hS; clear hS; go_simp; with_reducible rfl)
      simp only [Act.put, List.setIfInBounds_toArray, List.set_cons_zero, List.set_cons_succ]
      refine AnyK.late 10 (by kernel_rfl) (by kernel_rfl) rfl (fun KK hK => ?_)
      go_simp
      refine hK _ _ ?_
      clear hK
      refine AnyK.done (by kernel_rfl) ?_ _
      go_wp2_with fail
      go_meet
      exact ⟨V3.heap.size, rfl, heap_new rfl, HS0.out.alloc (Nat.le_refl _) _⟩
  case rest =>
  obtain ⟨qa, rfl, hqa, hba⟩ := hcut
  have HQa := Lib.hid hqa
  have HB8 := Lib.hid (HB3.out.trans (hba.mono HB3.out.size))
  have HX8 := Lib.hid ((hba.block _ (heap_lt HX3.out)).trans HX3.out)
  clear hba hqa G1 G2 HS0 HLW HB3 HX3
  obtain ⟨V8, hV8⟩ : ∃ V, V = wc := ⟨_, rfl⟩
  subst hV8
  clear pa0 pa1 pa2 pa3 pa4
  obtain ⟨kb, hkb⟩ : ∃ m : Nat, low j l = (m : Int) := ⟨(low j l).toNat, by have := low_bd j l hll; unfold low; omega⟩
  have hkbl : kb < l := by have := low_bd j l hll; unfold low at hkb; omega
  have pb0 : (0 : Int) ≤ (kb : Int) := by omega
  have pb1 : (kb : Int) < (l : Int) := by omega
  have pb2 : decide ((kb : Int) < 0) = false := decide_eq_false (by omega)
  have pb3 : decide ((l : Int) ≤ (kb : Int)) = false := decide_eq_false (by omega)
  have pb4 : decide (l ≤ kb) = false := decide_eq_false (by omega)
  obtain ⟨bb, ob, xb, vsb, heb, _, hxb, hcb, hIb⟩ := (row_lim HR.out HB8.out).item hkbl
  cases heb
  obtain ⟨a3, l3, c3, a6, l6, c6, a7, l7, c7, d8, a8, l8, c8, rfl, -⟩ := decl_is.1 hIb
  have eb : V8.cell? ⟨bb, oo + kb * 11 + 1, none⟩ = some (.string xb.name) := hcb 1 _ rfl
  have HNb := Lib.hid (show xb.name.size ≤ 1000 by have := (HF8.out _ _ hxb).2; omega)
  have bbl := World.block_lt_of_cell? _ _ eb
  have G1 := Lib.hid (show ∀ w', Below V8.heap.size V8 w' → w'.cell? ⟨W.heap.size, 0, none⟩ = some (.slice (some ⟨bb, oo, none⟩) l c) from fun w' h => by rw [Lib.cell_of_heap ((h.block _ (heap_lt HX8.out)).trans HX8.out)]; rfl)
  have G2 := Lib.hid (show ∀ w', Below V8.heap.size V8 w' → w'.cell? ⟨bb, oo + kb * 11 + 1, none⟩ = some (.string xb.name) from fun w' h => (h.cell bbl).trans eb)
  have HS0 := Lib.hid (show Below V8.heap.size V8 V8.drew from ⟨rfl, rfl, rfl, Nat.le_refl _, fun _ _ => rfl⟩)
  have HLW := Lib.hid (show ∀ w, Calls Try.prog 13 #[.int .i64 j, .int .i64 l] w fun e w' => e = .returned (.int .i64 (kb : Int)) ∧ w' = w from fun w => by have := low_any j l hll hll2 w; rw [hkb] at this; exact this)
  clear hcb hIb hxb eb bbl hkb
  go_upto_region 9 with fail
  go_cut [15] from 57 to 65 (fun v wx => ∃ p, v = .pointer (some ⟨p, 0, none⟩) ∧ wx.heap[p]? = some (.cells #[.int .i64 5, .int .i64 0, .int .i64 0, .string xb.name] 52 (0, 0)) ∧ Below V8.heap.size V8 wx)
  case first =>
    refine AnyK.start 10 (fun w' => Below V8.heap.size V8 w') rfl HS0.out (fun _ => ?_)
    refine AnyK.take (oi := { dst := _, op := _, type := _, pos := _, after := _, guard := _ }) 0 ?_ rfl (by kernel_rfl) (fun _ _ _ h => h) (Or.inl ⟨by rfl, ?_⟩) HS0.out ?_
    rotate_left
    · (intro w' hS; have q1 := G1.out w' hS; have q2 := G2.out w' hS; clear hS; go_simp; with_reducible rfl)
    simp only [Act.put, List.setIfInBounds_toArray, List.set_cons_zero, List.set_cons_succ]
    refine AnyK.take (oi := { dst := _, op := _, type := _, pos := _, after := _, guard := _ }) 1 ?_ rfl (by kernel_rfl) (fun _ _ _ h => h) (Or.inl ⟨by rfl, ?_⟩) HS0.out ?_
    rotate_left
    · (intro w' hS; have q1 := G1.out w' hS; have q2 := G2.out w' hS; clear hS; go_simp; with_reducible rfl)
    simp only [Act.put, List.setIfInBounds_toArray, List.set_cons_zero, List.set_cons_succ]
    refine AnyK.take (oi := { dst := _, op := _, type := _, pos := _, after := _, guard := _ }) 2 ?_ rfl (by kernel_rfl) (fun _ _ _ h => h) (Or.inl ⟨by rfl, ?_⟩) HS0.out ?_
    rotate_left
    · (intro w' hS; have q1 := G1.out w' hS; have q2 := G2.out w' hS; clear hS; go_simp; with_reducible rfl)
    simp only [Act.put, List.setIfInBounds_toArray, List.set_cons_zero, List.set_cons_succ]
    refine AnyK.take (oi := { dst := _, op := _, type := _, pos := _, after := _, guard := _ }) 3 ?_ rfl (by kernel_rfl) (fun _ _ _ h => h) (Or.inl ⟨by rfl, ?_⟩) HS0.out ?_
    rotate_left
    · (intro w' hS; have q1 := G1.out w' hS; have q2 := G2.out w' hS; clear hS; go_simp; with_reducible rfl)
    simp only [Act.put, List.setIfInBounds_toArray, List.set_cons_zero, List.set_cons_succ]
    refine AnyK.two 4 9 (by kernel_rfl) rfl rfl (fun KK hK => ?_) (fun KK hK => ?_)
    · go_simp
      refine (HLW.out _).mono ?_
      rintro e U1 ⟨rfl, rfl⟩
      refine hK _ _ HS0.out ?_
      clear hK
      refine AnyK.take (oi := { dst := _, op := _, type := _, pos := _, after := _, guard := _ }) 5 ?_ rfl (by kernel_rfl) (fun _ _ _ h => h) (Or.inl ⟨by rfl, ?_⟩) HS0.out ?_
      rotate_left
      · (intro w' hS; have q1 := G1.out w' hS; have q2 := G2.out w' hS; clear hS; go_simp; with_reducible rfl)
      simp only [Act.put, List.setIfInBounds_toArray, List.set_cons_zero, List.set_cons_succ]
      refine AnyK.take (oi := { dst := _, op := _, type := _, pos := _, after := _, guard := _ }) 6 ?_ rfl (by kernel_rfl) (fun _ _ _ h => h) (Or.inl ⟨by rfl, ?_⟩) HS0.out ?_
      rotate_left
      · (intro w' hS; have q1 := G1.out w' hS; have q2 := G2.out w' hS; clear hS; go_simp; with_reducible rfl)
      simp only [Act.put, List.setIfInBounds_toArray, List.set_cons_zero, List.set_cons_succ]
      refine AnyK.take (oi := { dst := _, op := _, type := _, pos := _, after := _, guard := _ }) 7 ?_ rfl (by kernel_rfl) (fun _ _ _ h => h) (Or.inl ⟨by rfl, ?_⟩) HS0.out ?_
      rotate_left
      · (intro w' hS; have q1 := G1.out w' hS; have q2 := G2.out w' hS; clear hS; go_simp; with_reducible rfl)
      simp only [Act.put, List.setIfInBounds_toArray, List.set_cons_zero, List.set_cons_succ]
      refine AnyK.take (oi := { dst := _, op := _, type := _, pos := _, after := _, guard := _ }) 8 ?_ rfl (by kernel_rfl) (fun _ _ _ h => h) (Or.inl ⟨by rfl, ?_⟩) HS0.out ?_
      rotate_left
      · (intro w' hS; have q1 := G1.out w' hS; have q2 := G2.out w' hS; clear hS; go_simp; with_reducible rfl)
      simp only [Act.put, List.setIfInBounds_toArray, List.set_cons_zero, List.set_cons_succ]
      refine AnyK.one 9 (by kernel_rfl) rfl (fun KK hK => ?_)
      go_simp
      refine hK _ _ (HS0.out.alloc (Nat.le_refl _) _) ?_
      clear hK
      refine AnyK.late 10 (by kernel_rfl) (by kernel_rfl) rfl (fun KK hK => ?_)
      go_simp
      refine hK _ _ ?_
      clear hK
      refine AnyK.done (by kernel_rfl) ?_ _
      go_wp2_with fail
      go_meet
      exact ⟨V8.heap.size, rfl, heap_new rfl, HS0.out.alloc (Nat.le_refl _) _⟩
    · go_simp
      refine hK _ _ (HS0.out.alloc (Nat.le_refl _) _) ?_
      clear hK
      have HS1 := Lib.hid (HS0.out.alloc (Nat.le_refl _) (.cells #[.int .i64 0, .int .i64 0, .int .i64 0, .string ⟨#[]⟩] 52))
      refine AnyK.one 4 (by kernel_rfl) rfl (fun KK hK => ?_)
      go_simp
      refine (HLW.out _).mono ?_
      rintro e U1 ⟨rfl, rfl⟩
      refine hK _ _ HS1.out ?_
      clear hK
      refine AnyK.take (oi := { dst := _, op := _, type := _, pos := _, after := _, guard := _ }) 5 ?_ rfl (by kernel_rfl) (fun _ _ _ h => h) (Or.inl ⟨by rfl, ?_⟩) HS1.out ?_
      rotate_left
      · (intro w' hS; have q1 := G1.out w' hS; have q2 := G2.out w' hS; clear hS; go_simp; with_reducible rfl)
      simp only [Act.put, List.setIfInBounds_toArray, List.set_cons_zero, List.set_cons_succ]
      refine AnyK.take (oi := { dst := _, op := _, type := _, pos := _, after := _, guard := _ }) 6 ?_ rfl (by kernel_rfl) (fun _ _ _ h => h) (Or.inl ⟨by rfl, ?_⟩) HS1.out ?_
      rotate_left
      · (intro w' hS; have q1 := G1.out w' hS; have q2 := G2.out w' hS; clear hS; go_simp; with_reducible rfl)
      simp only [Act.put, List.setIfInBounds_toArray, List.set_cons_zero, List.set_cons_succ]
      refine AnyK.take (oi := { dst := _, op := _, type := _, pos := _, after := _, guard := _ }) 7 ?_ rfl (by kernel_rfl) (fun _ _ _ h => h) (Or.inl ⟨by rfl, ?_⟩) HS1.out ?_
      rotate_left
      · (intro w' hS; have q1 := G1.out w' hS; have q2 := G2.out w' hS; clear hS; go_simp; with_reducible rfl)
      simp only [Act.put, List.setIfInBounds_toArray, List.set_cons_zero, List.set_cons_succ]
      refine AnyK.take (oi := { dst := _, op := _, type := _, pos := _, after := _, guard := _ }) 8 ?_ rfl (by kernel_rfl) (fun _ _ _ h => h) (Or.inl ⟨by rfl, ?_⟩) HS1.out ?_
      rotate_left
      · (intro w' hS; have q1 := G1.out w' hS; have q2 := G2.out w' hS; clear hS; go_simp; with_reducible rfl)
      simp only [Act.put, List.setIfInBounds_toArray, List.set_cons_zero, List.set_cons_succ]
      refine AnyK.late 10 (by kernel_rfl) (by kernel_rfl) rfl (fun KK hK => ?_)
      go_simp
      refine hK _ _ ?_
      clear hK
      refine AnyK.done (by kernel_rfl) ?_ _
      go_wp2_with fail
      go_meet
      exact ⟨V8.heap.size, rfl, heap_new rfl, HS0.out.alloc (Nat.le_refl _) _⟩
  case rest =>
  obtain ⟨qb, rfl, hqb, hbb⟩ := hcut
  have HQb := Lib.hid hqb
  have HB9 := Lib.hid (HB8.out.trans (hbb.mono HB8.out.size))
  have HX9 := Lib.hid ((hbb.block _ (heap_lt HX8.out)).trans HX8.out)
  have HQa := Lib.hid ((hbb.block _ (heap_lt HQa.out)).trans HQa.out)
  clear hbb hqb G1 G2 HS0 HLW HB8 HX8
  obtain ⟨V9, hV9⟩ : ∃ V, V = wc := ⟨_, rfl⟩
  subst hV9
  clear pb0 pb1 pb2 pb3 pb4
  obtain ⟨kc, hkc⟩ : ∃ m : Nat, low k l = (m : Int) := ⟨(low k l).toNat, by have := low_bd k l hll; unfold low; omega⟩
  have hkcl : kc < l := by have := low_bd k l hll; unfold low at hkc; omega
  have pc0 : (0 : Int) ≤ (kc : Int) := by omega
  have pc1 : (kc : Int) < (l : Int) := by omega
  have pc2 : decide ((kc : Int) < 0) = false := decide_eq_false (by omega)
  have pc3 : decide ((l : Int) ≤ (kc : Int)) = false := decide_eq_false (by omega)
  have pc4 : decide (l ≤ kc) = false := decide_eq_false (by omega)
  obtain ⟨bc, oc, xc, vsc, hec, _, hxc, hcc, hIc⟩ := (row_lim HR.out HB9.out).item hkcl
  cases hec
  obtain ⟨a3, l3, c3, a6, l6, c6, a7, l7, c7, d8, a8, l8, c8, rfl, -⟩ := decl_is.1 hIc
  have ec : V9.cell? ⟨bb, oo + kc * 11 + 1, none⟩ = some (.string xc.name) := hcc 1 _ rfl
  have HNc := Lib.hid (show xc.name.size ≤ 1000 by have := (HF8.out _ _ hxc).2; omega)
  have bcl := World.block_lt_of_cell? _ _ ec
  have G1 := Lib.hid (show ∀ w', Below V9.heap.size V9 w' → w'.cell? ⟨W.heap.size, 0, none⟩ = some (.slice (some ⟨bb, oo, none⟩) l c) from fun w' h => by rw [Lib.cell_of_heap ((h.block _ (heap_lt HX9.out)).trans HX9.out)]; rfl)
  have G2 := Lib.hid (show ∀ w', Below V9.heap.size V9 w' → w'.cell? ⟨bb, oo + kc * 11 + 1, none⟩ = some (.string xc.name) from fun w' h => (h.cell bcl).trans ec)
  have HS0 := Lib.hid (show Below V9.heap.size V9 V9.drew from ⟨rfl, rfl, rfl, Nat.le_refl _, fun _ _ => rfl⟩)
  have HLW := Lib.hid (show ∀ w, Calls Try.prog 13 #[.int .i64 k, .int .i64 l] w fun e w' => e = .returned (.int .i64 (kc : Int)) ∧ w' = w from fun w => by have := low_any k l hll hll2 w; rw [hkc] at this; exact this)
  clear hcc hIc hxc ec bcl hkc
  go_upto_region 10 with fail
  go_cut [16] from 66 to 74 (fun v wx => ∃ p, v = .pointer (some ⟨p, 0, none⟩) ∧ wx.heap[p]? = some (.cells #[.int .i64 5, .int .i64 0, .int .i64 0, .string xc.name] 52 (0, 0)) ∧ Below V9.heap.size V9 wx)
  case first =>
    refine AnyK.start 10 (fun w' => Below V9.heap.size V9 w') rfl HS0.out (fun _ => ?_)
    refine AnyK.take (oi := { dst := _, op := _, type := _, pos := _, after := _, guard := _ }) 0 ?_ rfl (by kernel_rfl) (fun _ _ _ h => h) (Or.inl ⟨by rfl, ?_⟩) HS0.out ?_
    rotate_left
    · (intro w' hS; have q1 := G1.out w' hS; have q2 := G2.out w' hS; clear hS; go_simp; with_reducible rfl)
    simp only [Act.put, List.setIfInBounds_toArray, List.set_cons_zero, List.set_cons_succ]
    refine AnyK.take (oi := { dst := _, op := _, type := _, pos := _, after := _, guard := _ }) 1 ?_ rfl (by kernel_rfl) (fun _ _ _ h => h) (Or.inl ⟨by rfl, ?_⟩) HS0.out ?_
    rotate_left
    · (intro w' hS; have q1 := G1.out w' hS; have q2 := G2.out w' hS; clear hS; go_simp; with_reducible rfl)
    simp only [Act.put, List.setIfInBounds_toArray, List.set_cons_zero, List.set_cons_succ]
    refine AnyK.take (oi := { dst := _, op := _, type := _, pos := _, after := _, guard := _ }) 2 ?_ rfl (by kernel_rfl) (fun _ _ _ h => h) (Or.inl ⟨by rfl, ?_⟩) HS0.out ?_
    rotate_left
    · (intro w' hS; have q1 := G1.out w' hS; have q2 := G2.out w' hS; clear hS; go_simp; with_reducible rfl)
    simp only [Act.put, List.setIfInBounds_toArray, List.set_cons_zero, List.set_cons_succ]
    refine AnyK.take (oi := { dst := _, op := _, type := _, pos := _, after := _, guard := _ }) 3 ?_ rfl (by kernel_rfl) (fun _ _ _ h => h) (Or.inl ⟨by rfl, ?_⟩) HS0.out ?_
    rotate_left
    · (intro w' hS; have q1 := G1.out w' hS; have q2 := G2.out w' hS; clear hS; go_simp; with_reducible rfl)
    simp only [Act.put, List.setIfInBounds_toArray, List.set_cons_zero, List.set_cons_succ]
    refine AnyK.two 4 9 (by kernel_rfl) rfl rfl (fun KK hK => ?_) (fun KK hK => ?_)
    · go_simp
      refine (HLW.out _).mono ?_
      rintro e U1 ⟨rfl, rfl⟩
      refine hK _ _ HS0.out ?_
      clear hK
      refine AnyK.take (oi := { dst := _, op := _, type := _, pos := _, after := _, guard := _ }) 5 ?_ rfl (by kernel_rfl) (fun _ _ _ h => h) (Or.inl ⟨by rfl, ?_⟩) HS0.out ?_
      rotate_left
      · (intro w' hS; have q1 := G1.out w' hS; have q2 := G2.out w' hS; clear hS; go_simp; with_reducible rfl)
      simp only [Act.put, List.setIfInBounds_toArray, List.set_cons_zero, List.set_cons_succ]
      refine AnyK.take (oi := { dst := _, op := _, type := _, pos := _, after := _, guard := _ }) 6 ?_ rfl (by kernel_rfl) (fun _ _ _ h => h) (Or.inl ⟨by rfl, ?_⟩) HS0.out ?_
      rotate_left
      · (intro w' hS; have q1 := G1.out w' hS; have q2 := G2.out w' hS; clear hS; go_simp; with_reducible rfl)
      simp only [Act.put, List.setIfInBounds_toArray, List.set_cons_zero, List.set_cons_succ]
      refine AnyK.take (oi := { dst := _, op := _, type := _, pos := _, after := _, guard := _ }) 7 ?_ rfl (by kernel_rfl) (fun _ _ _ h => h) (Or.inl ⟨by rfl, ?_⟩) HS0.out ?_
      rotate_left
      · (intro w' hS; have q1 := G1.out w' hS; have q2 := G2.out w' hS; clear hS; go_simp; with_reducible rfl)
      simp only [Act.put, List.setIfInBounds_toArray, List.set_cons_zero, List.set_cons_succ]
      refine AnyK.take (oi := { dst := _, op := _, type := _, pos := _, after := _, guard := _ }) 8 ?_ rfl (by kernel_rfl) (fun _ _ _ h => h) (Or.inl ⟨by rfl, ?_⟩) HS0.out ?_
      rotate_left
      · (intro w' hS; have q1 := G1.out w' hS; have q2 := G2.out w' hS; clear hS; go_simp; with_reducible rfl)
      simp only [Act.put, List.setIfInBounds_toArray, List.set_cons_zero, List.set_cons_succ]
      refine AnyK.one 9 (by kernel_rfl) rfl (fun KK hK => ?_)
      go_simp
      refine hK _ _ (HS0.out.alloc (Nat.le_refl _) _) ?_
      clear hK
      refine AnyK.late 10 (by kernel_rfl) (by kernel_rfl) rfl (fun KK hK => ?_)
      go_simp
      refine hK _ _ ?_
      clear hK
      refine AnyK.done (by kernel_rfl) ?_ _
      go_wp2_with fail
      go_meet
      exact ⟨V9.heap.size, rfl, heap_new rfl, HS0.out.alloc (Nat.le_refl _) _⟩
    · go_simp
      refine hK _ _ (HS0.out.alloc (Nat.le_refl _) _) ?_
      clear hK
      have HS1 := Lib.hid (HS0.out.alloc (Nat.le_refl _) (.cells #[.int .i64 0, .int .i64 0, .int .i64 0, .string ⟨#[]⟩] 52))
      refine AnyK.one 4 (by kernel_rfl) rfl (fun KK hK => ?_)
      go_simp
      refine (HLW.out _).mono ?_
      rintro e U1 ⟨rfl, rfl⟩
      refine hK _ _ HS1.out ?_
      clear hK
      refine AnyK.take (oi := { dst := _, op := _, type := _, pos := _, after := _, guard := _ }) 5 ?_ rfl (by kernel_rfl) (fun _ _ _ h => h) (Or.inl ⟨by rfl, ?_⟩) HS1.out ?_
      rotate_left
      · (intro w' hS; have q1 := G1.out w' hS; have q2 := G2.out w' hS; clear hS; go_simp; with_reducible rfl)
      simp only [Act.put, List.setIfInBounds_toArray, List.set_cons_zero, List.set_cons_succ]
      refine AnyK.take (oi := { dst := _, op := _, type := _, pos := _, after := _, guard := _ }) 6 ?_ rfl (by kernel_rfl) (fun _ _ _ h => h) (Or.inl ⟨by rfl, ?_⟩) HS1.out ?_
      rotate_left
      · (intro w' hS; have q1 := G1.out w' hS; have q2 := G2.out w' hS; clear hS; go_simp; with_reducible rfl)
      simp only [Act.put, List.setIfInBounds_toArray, List.set_cons_zero, List.set_cons_succ]
      refine AnyK.take (oi := { dst := _, op := _, type := _, pos := _, after := _, guard := _ }) 7 ?_ rfl (by kernel_rfl) (fun _ _ _ h => h) (Or.inl ⟨by rfl, ?_⟩) HS1.out ?_
      rotate_left
      · (intro w' hS; have q1 := G1.out w' hS; have q2 := G2.out w' hS; clear hS; go_simp; with_reducible rfl)
      simp only [Act.put, List.setIfInBounds_toArray, List.set_cons_zero, List.set_cons_succ]
      refine AnyK.take (oi := { dst := _, op := _, type := _, pos := _, after := _, guard := _ }) 8 ?_ rfl (by kernel_rfl) (fun _ _ _ h => h) (Or.inl ⟨by rfl, ?_⟩) HS1.out ?_
      rotate_left
      · (intro w' hS; have q1 := G1.out w' hS; have q2 := G2.out w' hS; clear hS; go_simp; with_reducible rfl)
      simp only [Act.put, List.setIfInBounds_toArray, List.set_cons_zero, List.set_cons_succ]
      refine AnyK.late 10 (by kernel_rfl) (by kernel_rfl) rfl (fun KK hK => ?_)
      go_simp
      refine hK _ _ ?_
      clear hK
      refine AnyK.done (by kernel_rfl) ?_ _
      go_wp2_with fail
      go_meet
      exact ⟨V9.heap.size, rfl, heap_new rfl, HS0.out.alloc (Nat.le_refl _) _⟩
  case rest =>
  obtain ⟨qc, rfl, hqc, hbc⟩ := hcut
  have HQc := Lib.hid hqc
  have HB10 := Lib.hid (HB9.out.trans (hbc.mono HB9.out.size))
  have HX10 := Lib.hid ((hbc.block _ (heap_lt HX9.out)).trans HX9.out)
  have HQa := Lib.hid ((hbc.block _ (heap_lt HQa.out)).trans HQa.out)
  have HQb := Lib.hid ((hbc.block _ (heap_lt HQb.out)).trans HQb.out)
  clear hbc hqc G1 G2 HS0 HLW HB9 HX9
  obtain ⟨V10, hV10⟩ : ∃ V, V = wc := ⟨_, rfl⟩
  subst hV10
  clear pc0 pc1 pc2 pc3 pc4
  go_upto_region 11 with fail
  have HB11 := Lib.hid (HB10.out.alloc HB10.out.size (.cells #[.int .i64 5, .int .i64 0, .int .i64 0, .string ⟨#[]⟩] 52))
  have HX11 := Lib.hid ((Below.heap_alloc V10 (.cells #[.int .i64 5, .int .i64 0, .int .i64 0, .string ⟨#[]⟩] 52) _ (heap_lt HX10.out)).trans HX10.out)
  have HQa := Lib.hid ((Below.heap_alloc V10 (.cells #[.int .i64 5, .int .i64 0, .int .i64 0, .string ⟨#[]⟩] 52) _ (heap_lt HQa.out)).trans HQa.out)
  have HQb := Lib.hid ((Below.heap_alloc V10 (.cells #[.int .i64 5, .int .i64 0, .int .i64 0, .string ⟨#[]⟩] 52) _ (heap_lt HQb.out)).trans HQb.out)
  have HQc := Lib.hid ((Below.heap_alloc V10 (.cells #[.int .i64 5, .int .i64 0, .int .i64 0, .string ⟨#[]⟩] 52) _ (heap_lt HQc.out)).trans HQc.out)
  have HQn := Lib.hid (heap_alloc_new V10 (.cells #[.int .i64 5, .int .i64 0, .int .i64 0, .string ⟨#[]⟩] 52))
  go_upto_region 12 with fail
  generalize V10.alloc (.cells #[.int .i64 5, .int .i64 0, .int .i64 0, .string ⟨#[]⟩] 52) = V11 at *
  have HU0 := Lib.hid (Below.refl V11.heap.size V11)
  have f0 : V11.cell? ⟨W.heap.size, 0, none⟩ = some (.slice (some ⟨bb, oo, none⟩) l c) := by rw [Lib.cell_of_heap ((HU0.out.block _ (heap_lt HX11.out)).trans HX11.out)]; rfl
  have a0_ : V11.cell? ⟨qa, 0, none⟩ = some (.int .i64 5) := by rw [Lib.cell_of_heap ((HU0.out.block _ (heap_lt HQa.out)).trans HQa.out)]; rfl
  have a1_ : V11.cell? ⟨qa, 1, none⟩ = some (.int .i64 0) := by rw [Lib.cell_of_heap ((HU0.out.block _ (heap_lt HQa.out)).trans HQa.out)]; rfl
  have a2_ : V11.cell? ⟨qa, 2, none⟩ = some (.int .i64 0) := by rw [Lib.cell_of_heap ((HU0.out.block _ (heap_lt HQa.out)).trans HQa.out)]; rfl
  have a3_ : V11.cell? ⟨qa, 3, none⟩ = some (.string xa.name) := by rw [Lib.cell_of_heap ((HU0.out.block _ (heap_lt HQa.out)).trans HQa.out)]; rfl
  have b0_ : V11.cell? ⟨qb, 0, none⟩ = some (.int .i64 5) := by rw [Lib.cell_of_heap ((HU0.out.block _ (heap_lt HQb.out)).trans HQb.out)]; rfl
  have b1_ : V11.cell? ⟨qb, 1, none⟩ = some (.int .i64 0) := by rw [Lib.cell_of_heap ((HU0.out.block _ (heap_lt HQb.out)).trans HQb.out)]; rfl
  have b2_ : V11.cell? ⟨qb, 2, none⟩ = some (.int .i64 0) := by rw [Lib.cell_of_heap ((HU0.out.block _ (heap_lt HQb.out)).trans HQb.out)]; rfl
  have b3_ : V11.cell? ⟨qb, 3, none⟩ = some (.string xb.name) := by rw [Lib.cell_of_heap ((HU0.out.block _ (heap_lt HQb.out)).trans HQb.out)]; rfl
  have c0_ : V11.cell? ⟨qc, 0, none⟩ = some (.int .i64 5) := by rw [Lib.cell_of_heap ((HU0.out.block _ (heap_lt HQc.out)).trans HQc.out)]; rfl
  have c1_ : V11.cell? ⟨qc, 1, none⟩ = some (.int .i64 0) := by rw [Lib.cell_of_heap ((HU0.out.block _ (heap_lt HQc.out)).trans HQc.out)]; rfl
  have c2_ : V11.cell? ⟨qc, 2, none⟩ = some (.int .i64 0) := by rw [Lib.cell_of_heap ((HU0.out.block _ (heap_lt HQc.out)).trans HQc.out)]; rfl
  have c3_ : V11.cell? ⟨qc, 3, none⟩ = some (.string xc.name) := by rw [Lib.cell_of_heap ((HU0.out.block _ (heap_lt HQc.out)).trans HQc.out)]; rfl
  have n0_ : V11.cell? ⟨V10.heap.size, 0, none⟩ = some (.int .i64 5) := by rw [Lib.cell_of_heap ((HU0.out.block _ (heap_lt HQn.out)).trans HQn.out)]; rfl
  have n1_ : V11.cell? ⟨V10.heap.size, 1, none⟩ = some (.int .i64 0) := by rw [Lib.cell_of_heap ((HU0.out.block _ (heap_lt HQn.out)).trans HQn.out)]; rfl
  have n2_ : V11.cell? ⟨V10.heap.size, 2, none⟩ = some (.int .i64 0) := by rw [Lib.cell_of_heap ((HU0.out.block _ (heap_lt HQn.out)).trans HQn.out)]; rfl
  have n3_ : V11.cell? ⟨V10.heap.size, 3, none⟩ = some (.string ⟨#[]⟩) := by rw [Lib.cell_of_heap ((HU0.out.block _ (heap_lt HQn.out)).trans HQn.out)]; rfl
  by_cases ha : xa.name = ⟨#[]⟩
  · have za := nil_yes ha
    go_wp2_with (go_at_call 31; refine (HAW.out _).mono ?_)
    rintro e U9 ⟨rfl, hb9⟩
    have HB9 := Lib.hid (HB11.out.trans (hb9.mono HB11.out.size))
    clear hb9
    go_wp2_with fail
    go_returns
    exact ⟨rfl, HB9.out⟩
  have za := nil_no ha
  by_cases hb : xb.name = ⟨#[]⟩
  · have zb := nil_yes hb
    go_wp2_with (go_at_call 31; refine (HAW.out _).mono ?_)
    rintro e U9 ⟨rfl, hb9⟩
    have HB9 := Lib.hid (HB11.out.trans (hb9.mono HB11.out.size))
    clear hb9
    go_wp2_with fail
    go_returns
    exact ⟨rfl, HB9.out⟩
  have zb := nil_no hb
  by_cases hc : xc.name = ⟨#[]⟩
  · have zc := nil_yes hc
    go_wp2_with (go_at_call 31; refine (HAW.out _).mono ?_)
    rintro e U9 ⟨rfl, hb9⟩
    have HB9 := Lib.hid (HB11.out.trans (hb9.mono HB11.out.size))
    clear hb9
    go_wp2_with fail
    go_returns
    exact ⟨rfl, HB9.out⟩
  have zc := nil_no hc
  go_upto_region 14 with fail
  clear f0 a0_ a1_ a2_ a3_ b0_ b1_ b2_ b3_ c0_ c1_ c2_ c3_ n0_ n1_ n2_ n3_
  clear za zb zc
  obtain ⟨β1, e1⟩ : ∃ β, fitsU ds ⟨5, 0, 0, xa.name⟩ ⟨5, 0, 0, xb.name⟩ = β := ⟨_, rfl⟩
  obtain ⟨β2, e2⟩ : ∃ β, fitsU ds ⟨5, 0, 0, xb.name⟩ ⟨5, 0, 0, xc.name⟩ = β := ⟨_, rfl⟩
  have E1 := Lib.hid e1
  have E2 := Lib.hid e2
  have E3 := Lib.hid (show β1 = true → β2 = true → fitsU ds ⟨5, 0, 0, xa.name⟩ ⟨5, 0, 0, xc.name⟩ = true from fun h1 h2 => fits_trans hb hc (e1.trans h1) (e2.trans h2))
  clear e1 e2 ha hb hc
  have f0 : V11.cell? ⟨W.heap.size, 0, none⟩ = some (.slice (some ⟨bb, oo, none⟩) l c) := by rw [Lib.cell_of_heap ((HU0.out.block _ (heap_lt HX11.out)).trans HX11.out)]; rfl
  have a0_ : V11.cell? ⟨qa, 0, none⟩ = some (.int .i64 5) := by rw [Lib.cell_of_heap ((HU0.out.block _ (heap_lt HQa.out)).trans HQa.out)]; rfl
  have a1_ : V11.cell? ⟨qa, 1, none⟩ = some (.int .i64 0) := by rw [Lib.cell_of_heap ((HU0.out.block _ (heap_lt HQa.out)).trans HQa.out)]; rfl
  have a2_ : V11.cell? ⟨qa, 2, none⟩ = some (.int .i64 0) := by rw [Lib.cell_of_heap ((HU0.out.block _ (heap_lt HQa.out)).trans HQa.out)]; rfl
  have a3_ : V11.cell? ⟨qa, 3, none⟩ = some (.string xa.name) := by rw [Lib.cell_of_heap ((HU0.out.block _ (heap_lt HQa.out)).trans HQa.out)]; rfl
  have b0_ : V11.cell? ⟨qb, 0, none⟩ = some (.int .i64 5) := by rw [Lib.cell_of_heap ((HU0.out.block _ (heap_lt HQb.out)).trans HQb.out)]; rfl
  have b1_ : V11.cell? ⟨qb, 1, none⟩ = some (.int .i64 0) := by rw [Lib.cell_of_heap ((HU0.out.block _ (heap_lt HQb.out)).trans HQb.out)]; rfl
  have b2_ : V11.cell? ⟨qb, 2, none⟩ = some (.int .i64 0) := by rw [Lib.cell_of_heap ((HU0.out.block _ (heap_lt HQb.out)).trans HQb.out)]; rfl
  have b3_ : V11.cell? ⟨qb, 3, none⟩ = some (.string xb.name) := by rw [Lib.cell_of_heap ((HU0.out.block _ (heap_lt HQb.out)).trans HQb.out)]; rfl
  have c0_ : V11.cell? ⟨qc, 0, none⟩ = some (.int .i64 5) := by rw [Lib.cell_of_heap ((HU0.out.block _ (heap_lt HQc.out)).trans HQc.out)]; rfl
  have c1_ : V11.cell? ⟨qc, 1, none⟩ = some (.int .i64 0) := by rw [Lib.cell_of_heap ((HU0.out.block _ (heap_lt HQc.out)).trans HQc.out)]; rfl
  have c2_ : V11.cell? ⟨qc, 2, none⟩ = some (.int .i64 0) := by rw [Lib.cell_of_heap ((HU0.out.block _ (heap_lt HQc.out)).trans HQc.out)]; rfl
  have c3_ : V11.cell? ⟨qc, 3, none⟩ = some (.string xc.name) := by rw [Lib.cell_of_heap ((HU0.out.block _ (heap_lt HQc.out)).trans HQc.out)]; rfl
  have n0_ : V11.cell? ⟨V10.heap.size, 0, none⟩ = some (.int .i64 5) := by rw [Lib.cell_of_heap ((HU0.out.block _ (heap_lt HQn.out)).trans HQn.out)]; rfl
  have n1_ : V11.cell? ⟨V10.heap.size, 1, none⟩ = some (.int .i64 0) := by rw [Lib.cell_of_heap ((HU0.out.block _ (heap_lt HQn.out)).trans HQn.out)]; rfl
  have n2_ : V11.cell? ⟨V10.heap.size, 2, none⟩ = some (.int .i64 0) := by rw [Lib.cell_of_heap ((HU0.out.block _ (heap_lt HQn.out)).trans HQn.out)]; rfl
  have n3_ : V11.cell? ⟨V10.heap.size, 3, none⟩ = some (.string ⟨#[]⟩) := by rw [Lib.cell_of_heap ((HU0.out.block _ (heap_lt HQn.out)).trans HQn.out)]; rfl
  have t1 := HTF.out V11 (HB11.out.trans (HU0.out.mono HB11.out.size)) ⟨5, 0, 0, xa.name⟩ ⟨5, 0, 0, xa.name⟩ HNa.out HNa.out
  dsimp only at t1
  rw [fits_self] at t1
  go_wp2_with (go_at_call 32; refine t1.mono ?_)
  rintro e U1 ⟨rfl, hb1⟩
  have HU1 := Lib.hid (HU0.out.trans (hb1.mono HU0.out.size))
  clear hb1 t1
  clear f0 a0_ a1_ a2_ a3_ b0_ b1_ b2_ b3_ c0_ c1_ c2_ c3_ n0_ n1_ n2_ n3_
  have f0 : U1.cell? ⟨W.heap.size, 0, none⟩ = some (.slice (some ⟨bb, oo, none⟩) l c) := by rw [Lib.cell_of_heap ((HU1.out.block _ (heap_lt HX11.out)).trans HX11.out)]; rfl
  have a0_ : U1.cell? ⟨qa, 0, none⟩ = some (.int .i64 5) := by rw [Lib.cell_of_heap ((HU1.out.block _ (heap_lt HQa.out)).trans HQa.out)]; rfl
  have a1_ : U1.cell? ⟨qa, 1, none⟩ = some (.int .i64 0) := by rw [Lib.cell_of_heap ((HU1.out.block _ (heap_lt HQa.out)).trans HQa.out)]; rfl
  have a2_ : U1.cell? ⟨qa, 2, none⟩ = some (.int .i64 0) := by rw [Lib.cell_of_heap ((HU1.out.block _ (heap_lt HQa.out)).trans HQa.out)]; rfl
  have a3_ : U1.cell? ⟨qa, 3, none⟩ = some (.string xa.name) := by rw [Lib.cell_of_heap ((HU1.out.block _ (heap_lt HQa.out)).trans HQa.out)]; rfl
  have b0_ : U1.cell? ⟨qb, 0, none⟩ = some (.int .i64 5) := by rw [Lib.cell_of_heap ((HU1.out.block _ (heap_lt HQb.out)).trans HQb.out)]; rfl
  have b1_ : U1.cell? ⟨qb, 1, none⟩ = some (.int .i64 0) := by rw [Lib.cell_of_heap ((HU1.out.block _ (heap_lt HQb.out)).trans HQb.out)]; rfl
  have b2_ : U1.cell? ⟨qb, 2, none⟩ = some (.int .i64 0) := by rw [Lib.cell_of_heap ((HU1.out.block _ (heap_lt HQb.out)).trans HQb.out)]; rfl
  have b3_ : U1.cell? ⟨qb, 3, none⟩ = some (.string xb.name) := by rw [Lib.cell_of_heap ((HU1.out.block _ (heap_lt HQb.out)).trans HQb.out)]; rfl
  have c0_ : U1.cell? ⟨qc, 0, none⟩ = some (.int .i64 5) := by rw [Lib.cell_of_heap ((HU1.out.block _ (heap_lt HQc.out)).trans HQc.out)]; rfl
  have c1_ : U1.cell? ⟨qc, 1, none⟩ = some (.int .i64 0) := by rw [Lib.cell_of_heap ((HU1.out.block _ (heap_lt HQc.out)).trans HQc.out)]; rfl
  have c2_ : U1.cell? ⟨qc, 2, none⟩ = some (.int .i64 0) := by rw [Lib.cell_of_heap ((HU1.out.block _ (heap_lt HQc.out)).trans HQc.out)]; rfl
  have c3_ : U1.cell? ⟨qc, 3, none⟩ = some (.string xc.name) := by rw [Lib.cell_of_heap ((HU1.out.block _ (heap_lt HQc.out)).trans HQc.out)]; rfl
  have n0_ : U1.cell? ⟨V10.heap.size, 0, none⟩ = some (.int .i64 5) := by rw [Lib.cell_of_heap ((HU1.out.block _ (heap_lt HQn.out)).trans HQn.out)]; rfl
  have n1_ : U1.cell? ⟨V10.heap.size, 1, none⟩ = some (.int .i64 0) := by rw [Lib.cell_of_heap ((HU1.out.block _ (heap_lt HQn.out)).trans HQn.out)]; rfl
  have n2_ : U1.cell? ⟨V10.heap.size, 2, none⟩ = some (.int .i64 0) := by rw [Lib.cell_of_heap ((HU1.out.block _ (heap_lt HQn.out)).trans HQn.out)]; rfl
  have n3_ : U1.cell? ⟨V10.heap.size, 3, none⟩ = some (.string ⟨#[]⟩) := by rw [Lib.cell_of_heap ((HU1.out.block _ (heap_lt HQn.out)).trans HQn.out)]; rfl
  have t2 := HTF.out U1 (HB11.out.trans (HU1.out.mono HB11.out.size)) ⟨5, 0, 0, xa.name⟩ ⟨5, 0, 0, ⟨#[]⟩⟩ HNa.out (by decide)
  dsimp only at t2
  rw [fits_nil] at t2
  go_wp2_with (go_at_call 32; refine t2.mono ?_)
  rintro e U2 ⟨rfl, hb2⟩
  have HU2 := Lib.hid (HU1.out.trans (hb2.mono HU1.out.size))
  clear hb2 t2
  clear f0 a0_ a1_ a2_ a3_ b0_ b1_ b2_ b3_ c0_ c1_ c2_ c3_ n0_ n1_ n2_ n3_
  cases β1 with
  | false =>
    have f0 : U2.cell? ⟨W.heap.size, 0, none⟩ = some (.slice (some ⟨bb, oo, none⟩) l c) := by rw [Lib.cell_of_heap ((HU2.out.block _ (heap_lt HX11.out)).trans HX11.out)]; rfl
    have a0_ : U2.cell? ⟨qa, 0, none⟩ = some (.int .i64 5) := by rw [Lib.cell_of_heap ((HU2.out.block _ (heap_lt HQa.out)).trans HQa.out)]; rfl
    have a1_ : U2.cell? ⟨qa, 1, none⟩ = some (.int .i64 0) := by rw [Lib.cell_of_heap ((HU2.out.block _ (heap_lt HQa.out)).trans HQa.out)]; rfl
    have a2_ : U2.cell? ⟨qa, 2, none⟩ = some (.int .i64 0) := by rw [Lib.cell_of_heap ((HU2.out.block _ (heap_lt HQa.out)).trans HQa.out)]; rfl
    have a3_ : U2.cell? ⟨qa, 3, none⟩ = some (.string xa.name) := by rw [Lib.cell_of_heap ((HU2.out.block _ (heap_lt HQa.out)).trans HQa.out)]; rfl
    have b0_ : U2.cell? ⟨qb, 0, none⟩ = some (.int .i64 5) := by rw [Lib.cell_of_heap ((HU2.out.block _ (heap_lt HQb.out)).trans HQb.out)]; rfl
    have b1_ : U2.cell? ⟨qb, 1, none⟩ = some (.int .i64 0) := by rw [Lib.cell_of_heap ((HU2.out.block _ (heap_lt HQb.out)).trans HQb.out)]; rfl
    have b2_ : U2.cell? ⟨qb, 2, none⟩ = some (.int .i64 0) := by rw [Lib.cell_of_heap ((HU2.out.block _ (heap_lt HQb.out)).trans HQb.out)]; rfl
    have b3_ : U2.cell? ⟨qb, 3, none⟩ = some (.string xb.name) := by rw [Lib.cell_of_heap ((HU2.out.block _ (heap_lt HQb.out)).trans HQb.out)]; rfl
    have c0_ : U2.cell? ⟨qc, 0, none⟩ = some (.int .i64 5) := by rw [Lib.cell_of_heap ((HU2.out.block _ (heap_lt HQc.out)).trans HQc.out)]; rfl
    have c1_ : U2.cell? ⟨qc, 1, none⟩ = some (.int .i64 0) := by rw [Lib.cell_of_heap ((HU2.out.block _ (heap_lt HQc.out)).trans HQc.out)]; rfl
    have c2_ : U2.cell? ⟨qc, 2, none⟩ = some (.int .i64 0) := by rw [Lib.cell_of_heap ((HU2.out.block _ (heap_lt HQc.out)).trans HQc.out)]; rfl
    have c3_ : U2.cell? ⟨qc, 3, none⟩ = some (.string xc.name) := by rw [Lib.cell_of_heap ((HU2.out.block _ (heap_lt HQc.out)).trans HQc.out)]; rfl
    have n0_ : U2.cell? ⟨V10.heap.size, 0, none⟩ = some (.int .i64 5) := by rw [Lib.cell_of_heap ((HU2.out.block _ (heap_lt HQn.out)).trans HQn.out)]; rfl
    have n1_ : U2.cell? ⟨V10.heap.size, 1, none⟩ = some (.int .i64 0) := by rw [Lib.cell_of_heap ((HU2.out.block _ (heap_lt HQn.out)).trans HQn.out)]; rfl
    have n2_ : U2.cell? ⟨V10.heap.size, 2, none⟩ = some (.int .i64 0) := by rw [Lib.cell_of_heap ((HU2.out.block _ (heap_lt HQn.out)).trans HQn.out)]; rfl
    have n3_ : U2.cell? ⟨V10.heap.size, 3, none⟩ = some (.string ⟨#[]⟩) := by rw [Lib.cell_of_heap ((HU2.out.block _ (heap_lt HQn.out)).trans HQn.out)]; rfl
    have t3 := HTF.out U2 (HB11.out.trans (HU2.out.mono HB11.out.size)) ⟨5, 0, 0, xa.name⟩ ⟨5, 0, 0, xb.name⟩ HNa.out HNb.out
    dsimp only at t3
    rw [E1.out] at t3
    go_wp2_with (go_at_call 32; refine t3.mono ?_)
    rintro e U3 ⟨rfl, hb3⟩
    have HU3 := Lib.hid (HU2.out.trans (hb3.mono HU2.out.size))
    clear hb3 t3
    clear f0 a0_ a1_ a2_ a3_ b0_ b1_ b2_ b3_ c0_ c1_ c2_ c3_ n0_ n1_ n2_ n3_
    have HY := Lib.hid (HB11.out.trans (HU3.out.mono HB11.out.size))
    go_wp2_with (go_at_call 31; refine (HAW.out _).mono ?_)
    rintro e U9 ⟨rfl, hb9⟩
    have HB9 := Lib.hid (HY.out.trans (hb9.mono HY.out.size))
    clear hb9
    go_wp2_with fail
    go_returns
    exact ⟨rfl, HB9.out⟩
  | true =>
    have f0 : U2.cell? ⟨W.heap.size, 0, none⟩ = some (.slice (some ⟨bb, oo, none⟩) l c) := by rw [Lib.cell_of_heap ((HU2.out.block _ (heap_lt HX11.out)).trans HX11.out)]; rfl
    have a0_ : U2.cell? ⟨qa, 0, none⟩ = some (.int .i64 5) := by rw [Lib.cell_of_heap ((HU2.out.block _ (heap_lt HQa.out)).trans HQa.out)]; rfl
    have a1_ : U2.cell? ⟨qa, 1, none⟩ = some (.int .i64 0) := by rw [Lib.cell_of_heap ((HU2.out.block _ (heap_lt HQa.out)).trans HQa.out)]; rfl
    have a2_ : U2.cell? ⟨qa, 2, none⟩ = some (.int .i64 0) := by rw [Lib.cell_of_heap ((HU2.out.block _ (heap_lt HQa.out)).trans HQa.out)]; rfl
    have a3_ : U2.cell? ⟨qa, 3, none⟩ = some (.string xa.name) := by rw [Lib.cell_of_heap ((HU2.out.block _ (heap_lt HQa.out)).trans HQa.out)]; rfl
    have b0_ : U2.cell? ⟨qb, 0, none⟩ = some (.int .i64 5) := by rw [Lib.cell_of_heap ((HU2.out.block _ (heap_lt HQb.out)).trans HQb.out)]; rfl
    have b1_ : U2.cell? ⟨qb, 1, none⟩ = some (.int .i64 0) := by rw [Lib.cell_of_heap ((HU2.out.block _ (heap_lt HQb.out)).trans HQb.out)]; rfl
    have b2_ : U2.cell? ⟨qb, 2, none⟩ = some (.int .i64 0) := by rw [Lib.cell_of_heap ((HU2.out.block _ (heap_lt HQb.out)).trans HQb.out)]; rfl
    have b3_ : U2.cell? ⟨qb, 3, none⟩ = some (.string xb.name) := by rw [Lib.cell_of_heap ((HU2.out.block _ (heap_lt HQb.out)).trans HQb.out)]; rfl
    have c0_ : U2.cell? ⟨qc, 0, none⟩ = some (.int .i64 5) := by rw [Lib.cell_of_heap ((HU2.out.block _ (heap_lt HQc.out)).trans HQc.out)]; rfl
    have c1_ : U2.cell? ⟨qc, 1, none⟩ = some (.int .i64 0) := by rw [Lib.cell_of_heap ((HU2.out.block _ (heap_lt HQc.out)).trans HQc.out)]; rfl
    have c2_ : U2.cell? ⟨qc, 2, none⟩ = some (.int .i64 0) := by rw [Lib.cell_of_heap ((HU2.out.block _ (heap_lt HQc.out)).trans HQc.out)]; rfl
    have c3_ : U2.cell? ⟨qc, 3, none⟩ = some (.string xc.name) := by rw [Lib.cell_of_heap ((HU2.out.block _ (heap_lt HQc.out)).trans HQc.out)]; rfl
    have n0_ : U2.cell? ⟨V10.heap.size, 0, none⟩ = some (.int .i64 5) := by rw [Lib.cell_of_heap ((HU2.out.block _ (heap_lt HQn.out)).trans HQn.out)]; rfl
    have n1_ : U2.cell? ⟨V10.heap.size, 1, none⟩ = some (.int .i64 0) := by rw [Lib.cell_of_heap ((HU2.out.block _ (heap_lt HQn.out)).trans HQn.out)]; rfl
    have n2_ : U2.cell? ⟨V10.heap.size, 2, none⟩ = some (.int .i64 0) := by rw [Lib.cell_of_heap ((HU2.out.block _ (heap_lt HQn.out)).trans HQn.out)]; rfl
    have n3_ : U2.cell? ⟨V10.heap.size, 3, none⟩ = some (.string ⟨#[]⟩) := by rw [Lib.cell_of_heap ((HU2.out.block _ (heap_lt HQn.out)).trans HQn.out)]; rfl
    have t3 := HTF.out U2 (HB11.out.trans (HU2.out.mono HB11.out.size)) ⟨5, 0, 0, xa.name⟩ ⟨5, 0, 0, xb.name⟩ HNa.out HNb.out
    dsimp only at t3
    rw [E1.out] at t3
    go_wp2_with (go_at_call 32; refine t3.mono ?_)
    rintro e U3 ⟨rfl, hb3⟩
    have HU3 := Lib.hid (HU2.out.trans (hb3.mono HU2.out.size))
    clear hb3 t3
    clear f0 a0_ a1_ a2_ a3_ b0_ b1_ b2_ b3_ c0_ c1_ c2_ c3_ n0_ n1_ n2_ n3_
    cases β2 with
    | false =>
      have f0 : U3.cell? ⟨W.heap.size, 0, none⟩ = some (.slice (some ⟨bb, oo, none⟩) l c) := by rw [Lib.cell_of_heap ((HU3.out.block _ (heap_lt HX11.out)).trans HX11.out)]; rfl
      have a0_ : U3.cell? ⟨qa, 0, none⟩ = some (.int .i64 5) := by rw [Lib.cell_of_heap ((HU3.out.block _ (heap_lt HQa.out)).trans HQa.out)]; rfl
      have a1_ : U3.cell? ⟨qa, 1, none⟩ = some (.int .i64 0) := by rw [Lib.cell_of_heap ((HU3.out.block _ (heap_lt HQa.out)).trans HQa.out)]; rfl
      have a2_ : U3.cell? ⟨qa, 2, none⟩ = some (.int .i64 0) := by rw [Lib.cell_of_heap ((HU3.out.block _ (heap_lt HQa.out)).trans HQa.out)]; rfl
      have a3_ : U3.cell? ⟨qa, 3, none⟩ = some (.string xa.name) := by rw [Lib.cell_of_heap ((HU3.out.block _ (heap_lt HQa.out)).trans HQa.out)]; rfl
      have b0_ : U3.cell? ⟨qb, 0, none⟩ = some (.int .i64 5) := by rw [Lib.cell_of_heap ((HU3.out.block _ (heap_lt HQb.out)).trans HQb.out)]; rfl
      have b1_ : U3.cell? ⟨qb, 1, none⟩ = some (.int .i64 0) := by rw [Lib.cell_of_heap ((HU3.out.block _ (heap_lt HQb.out)).trans HQb.out)]; rfl
      have b2_ : U3.cell? ⟨qb, 2, none⟩ = some (.int .i64 0) := by rw [Lib.cell_of_heap ((HU3.out.block _ (heap_lt HQb.out)).trans HQb.out)]; rfl
      have b3_ : U3.cell? ⟨qb, 3, none⟩ = some (.string xb.name) := by rw [Lib.cell_of_heap ((HU3.out.block _ (heap_lt HQb.out)).trans HQb.out)]; rfl
      have c0_ : U3.cell? ⟨qc, 0, none⟩ = some (.int .i64 5) := by rw [Lib.cell_of_heap ((HU3.out.block _ (heap_lt HQc.out)).trans HQc.out)]; rfl
      have c1_ : U3.cell? ⟨qc, 1, none⟩ = some (.int .i64 0) := by rw [Lib.cell_of_heap ((HU3.out.block _ (heap_lt HQc.out)).trans HQc.out)]; rfl
      have c2_ : U3.cell? ⟨qc, 2, none⟩ = some (.int .i64 0) := by rw [Lib.cell_of_heap ((HU3.out.block _ (heap_lt HQc.out)).trans HQc.out)]; rfl
      have c3_ : U3.cell? ⟨qc, 3, none⟩ = some (.string xc.name) := by rw [Lib.cell_of_heap ((HU3.out.block _ (heap_lt HQc.out)).trans HQc.out)]; rfl
      have n0_ : U3.cell? ⟨V10.heap.size, 0, none⟩ = some (.int .i64 5) := by rw [Lib.cell_of_heap ((HU3.out.block _ (heap_lt HQn.out)).trans HQn.out)]; rfl
      have n1_ : U3.cell? ⟨V10.heap.size, 1, none⟩ = some (.int .i64 0) := by rw [Lib.cell_of_heap ((HU3.out.block _ (heap_lt HQn.out)).trans HQn.out)]; rfl
      have n2_ : U3.cell? ⟨V10.heap.size, 2, none⟩ = some (.int .i64 0) := by rw [Lib.cell_of_heap ((HU3.out.block _ (heap_lt HQn.out)).trans HQn.out)]; rfl
      have n3_ : U3.cell? ⟨V10.heap.size, 3, none⟩ = some (.string ⟨#[]⟩) := by rw [Lib.cell_of_heap ((HU3.out.block _ (heap_lt HQn.out)).trans HQn.out)]; rfl
      have t4 := HTF.out U3 (HB11.out.trans (HU3.out.mono HB11.out.size)) ⟨5, 0, 0, xb.name⟩ ⟨5, 0, 0, xc.name⟩ HNb.out HNc.out
      dsimp only at t4
      rw [E2.out] at t4
      go_wp2_with (go_at_call 32; refine t4.mono ?_)
      rintro e U4 ⟨rfl, hb4⟩
      have HU4 := Lib.hid (HU3.out.trans (hb4.mono HU3.out.size))
      clear hb4 t4
      clear f0 a0_ a1_ a2_ a3_ b0_ b1_ b2_ b3_ c0_ c1_ c2_ c3_ n0_ n1_ n2_ n3_
      have HY := Lib.hid (HB11.out.trans (HU4.out.mono HB11.out.size))
      go_wp2_with (go_at_call 31; refine (HAW.out _).mono ?_)
      rintro e U9 ⟨rfl, hb9⟩
      have HB9 := Lib.hid (HY.out.trans (hb9.mono HY.out.size))
      clear hb9
      go_wp2_with fail
      go_returns
      exact ⟨rfl, HB9.out⟩
    | true =>
      have f0 : U3.cell? ⟨W.heap.size, 0, none⟩ = some (.slice (some ⟨bb, oo, none⟩) l c) := by rw [Lib.cell_of_heap ((HU3.out.block _ (heap_lt HX11.out)).trans HX11.out)]; rfl
      have a0_ : U3.cell? ⟨qa, 0, none⟩ = some (.int .i64 5) := by rw [Lib.cell_of_heap ((HU3.out.block _ (heap_lt HQa.out)).trans HQa.out)]; rfl
      have a1_ : U3.cell? ⟨qa, 1, none⟩ = some (.int .i64 0) := by rw [Lib.cell_of_heap ((HU3.out.block _ (heap_lt HQa.out)).trans HQa.out)]; rfl
      have a2_ : U3.cell? ⟨qa, 2, none⟩ = some (.int .i64 0) := by rw [Lib.cell_of_heap ((HU3.out.block _ (heap_lt HQa.out)).trans HQa.out)]; rfl
      have a3_ : U3.cell? ⟨qa, 3, none⟩ = some (.string xa.name) := by rw [Lib.cell_of_heap ((HU3.out.block _ (heap_lt HQa.out)).trans HQa.out)]; rfl
      have b0_ : U3.cell? ⟨qb, 0, none⟩ = some (.int .i64 5) := by rw [Lib.cell_of_heap ((HU3.out.block _ (heap_lt HQb.out)).trans HQb.out)]; rfl
      have b1_ : U3.cell? ⟨qb, 1, none⟩ = some (.int .i64 0) := by rw [Lib.cell_of_heap ((HU3.out.block _ (heap_lt HQb.out)).trans HQb.out)]; rfl
      have b2_ : U3.cell? ⟨qb, 2, none⟩ = some (.int .i64 0) := by rw [Lib.cell_of_heap ((HU3.out.block _ (heap_lt HQb.out)).trans HQb.out)]; rfl
      have b3_ : U3.cell? ⟨qb, 3, none⟩ = some (.string xb.name) := by rw [Lib.cell_of_heap ((HU3.out.block _ (heap_lt HQb.out)).trans HQb.out)]; rfl
      have c0_ : U3.cell? ⟨qc, 0, none⟩ = some (.int .i64 5) := by rw [Lib.cell_of_heap ((HU3.out.block _ (heap_lt HQc.out)).trans HQc.out)]; rfl
      have c1_ : U3.cell? ⟨qc, 1, none⟩ = some (.int .i64 0) := by rw [Lib.cell_of_heap ((HU3.out.block _ (heap_lt HQc.out)).trans HQc.out)]; rfl
      have c2_ : U3.cell? ⟨qc, 2, none⟩ = some (.int .i64 0) := by rw [Lib.cell_of_heap ((HU3.out.block _ (heap_lt HQc.out)).trans HQc.out)]; rfl
      have c3_ : U3.cell? ⟨qc, 3, none⟩ = some (.string xc.name) := by rw [Lib.cell_of_heap ((HU3.out.block _ (heap_lt HQc.out)).trans HQc.out)]; rfl
      have n0_ : U3.cell? ⟨V10.heap.size, 0, none⟩ = some (.int .i64 5) := by rw [Lib.cell_of_heap ((HU3.out.block _ (heap_lt HQn.out)).trans HQn.out)]; rfl
      have n1_ : U3.cell? ⟨V10.heap.size, 1, none⟩ = some (.int .i64 0) := by rw [Lib.cell_of_heap ((HU3.out.block _ (heap_lt HQn.out)).trans HQn.out)]; rfl
      have n2_ : U3.cell? ⟨V10.heap.size, 2, none⟩ = some (.int .i64 0) := by rw [Lib.cell_of_heap ((HU3.out.block _ (heap_lt HQn.out)).trans HQn.out)]; rfl
      have n3_ : U3.cell? ⟨V10.heap.size, 3, none⟩ = some (.string ⟨#[]⟩) := by rw [Lib.cell_of_heap ((HU3.out.block _ (heap_lt HQn.out)).trans HQn.out)]; rfl
      have t4 := HTF.out U3 (HB11.out.trans (HU3.out.mono HB11.out.size)) ⟨5, 0, 0, xb.name⟩ ⟨5, 0, 0, xc.name⟩ HNb.out HNc.out
      dsimp only at t4
      rw [E2.out] at t4
      go_wp2_with (go_at_call 32; refine t4.mono ?_)
      rintro e U4 ⟨rfl, hb4⟩
      have HU4 := Lib.hid (HU3.out.trans (hb4.mono HU3.out.size))
      clear hb4 t4
      clear f0 a0_ a1_ a2_ a3_ b0_ b1_ b2_ b3_ c0_ c1_ c2_ c3_ n0_ n1_ n2_ n3_
      have f0 : U4.cell? ⟨W.heap.size, 0, none⟩ = some (.slice (some ⟨bb, oo, none⟩) l c) := by rw [Lib.cell_of_heap ((HU4.out.block _ (heap_lt HX11.out)).trans HX11.out)]; rfl
      have a0_ : U4.cell? ⟨qa, 0, none⟩ = some (.int .i64 5) := by rw [Lib.cell_of_heap ((HU4.out.block _ (heap_lt HQa.out)).trans HQa.out)]; rfl
      have a1_ : U4.cell? ⟨qa, 1, none⟩ = some (.int .i64 0) := by rw [Lib.cell_of_heap ((HU4.out.block _ (heap_lt HQa.out)).trans HQa.out)]; rfl
      have a2_ : U4.cell? ⟨qa, 2, none⟩ = some (.int .i64 0) := by rw [Lib.cell_of_heap ((HU4.out.block _ (heap_lt HQa.out)).trans HQa.out)]; rfl
      have a3_ : U4.cell? ⟨qa, 3, none⟩ = some (.string xa.name) := by rw [Lib.cell_of_heap ((HU4.out.block _ (heap_lt HQa.out)).trans HQa.out)]; rfl
      have b0_ : U4.cell? ⟨qb, 0, none⟩ = some (.int .i64 5) := by rw [Lib.cell_of_heap ((HU4.out.block _ (heap_lt HQb.out)).trans HQb.out)]; rfl
      have b1_ : U4.cell? ⟨qb, 1, none⟩ = some (.int .i64 0) := by rw [Lib.cell_of_heap ((HU4.out.block _ (heap_lt HQb.out)).trans HQb.out)]; rfl
      have b2_ : U4.cell? ⟨qb, 2, none⟩ = some (.int .i64 0) := by rw [Lib.cell_of_heap ((HU4.out.block _ (heap_lt HQb.out)).trans HQb.out)]; rfl
      have b3_ : U4.cell? ⟨qb, 3, none⟩ = some (.string xb.name) := by rw [Lib.cell_of_heap ((HU4.out.block _ (heap_lt HQb.out)).trans HQb.out)]; rfl
      have c0_ : U4.cell? ⟨qc, 0, none⟩ = some (.int .i64 5) := by rw [Lib.cell_of_heap ((HU4.out.block _ (heap_lt HQc.out)).trans HQc.out)]; rfl
      have c1_ : U4.cell? ⟨qc, 1, none⟩ = some (.int .i64 0) := by rw [Lib.cell_of_heap ((HU4.out.block _ (heap_lt HQc.out)).trans HQc.out)]; rfl
      have c2_ : U4.cell? ⟨qc, 2, none⟩ = some (.int .i64 0) := by rw [Lib.cell_of_heap ((HU4.out.block _ (heap_lt HQc.out)).trans HQc.out)]; rfl
      have c3_ : U4.cell? ⟨qc, 3, none⟩ = some (.string xc.name) := by rw [Lib.cell_of_heap ((HU4.out.block _ (heap_lt HQc.out)).trans HQc.out)]; rfl
      have n0_ : U4.cell? ⟨V10.heap.size, 0, none⟩ = some (.int .i64 5) := by rw [Lib.cell_of_heap ((HU4.out.block _ (heap_lt HQn.out)).trans HQn.out)]; rfl
      have n1_ : U4.cell? ⟨V10.heap.size, 1, none⟩ = some (.int .i64 0) := by rw [Lib.cell_of_heap ((HU4.out.block _ (heap_lt HQn.out)).trans HQn.out)]; rfl
      have n2_ : U4.cell? ⟨V10.heap.size, 2, none⟩ = some (.int .i64 0) := by rw [Lib.cell_of_heap ((HU4.out.block _ (heap_lt HQn.out)).trans HQn.out)]; rfl
      have n3_ : U4.cell? ⟨V10.heap.size, 3, none⟩ = some (.string ⟨#[]⟩) := by rw [Lib.cell_of_heap ((HU4.out.block _ (heap_lt HQn.out)).trans HQn.out)]; rfl
      have t5 := HTF.out U4 (HB11.out.trans (HU4.out.mono HB11.out.size)) ⟨5, 0, 0, xa.name⟩ ⟨5, 0, 0, xc.name⟩ HNa.out HNc.out
      dsimp only at t5
      rw [E3.out (by trivial) (by trivial)] at t5
      go_wp2_with (go_at_call 32; refine t5.mono ?_)
      rintro e U5 ⟨rfl, hb5⟩
      have HU5 := Lib.hid (HU4.out.trans (hb5.mono HU4.out.size))
      clear hb5 t5
      clear f0 a0_ a1_ a2_ a3_ b0_ b1_ b2_ b3_ c0_ c1_ c2_ c3_ n0_ n1_ n2_ n3_
      have HY := Lib.hid (HB11.out.trans (HU5.out.mono HB11.out.size))
      go_wp2_with (go_at_call 31; refine (HAW.out _).mono ?_)
      rintro e U9 ⟨rfl, hb9⟩
      have HB9 := Lib.hid (HY.out.trans (hb9.mono HY.out.size))
      clear hb9
      go_wp2_with fail
      go_returns
      exact ⟨rfl, HB9.out⟩

end Go.Proofs.Ytnjfbcoddbeggaa
