/-
  An image that came in, and bytes; what the listed variable holds, in any world of the rows, and in a witness.
-/
import Derived.Test.YtoaohoeghlidaaaGreatDoorErr
import Derived.Test.YtoaohoeghlidaaaGreatDoorReader
import Derived.Test.YtoaohoeghlidaaaGreatDoorRows
import Derived.LaidMore
import Derived.LaidHandle
import Derived.LaidSub
import Derived.Lay
import Derived.HandedShaped
import Derived.ChangeMaps5
import Derived.Deep.Slices
import Derived.Deep.Fields
namespace Go.Proofs.YtoaohoeghlidaaaGreatDoor
open Go.ChangeShapes Go.WideShapes Go.ChangeAt Go.RowKit Go.ChangeMaps Go.Deep

section
variable {H : Type} {enc : TypeId × Value → H} {w : World} {base : Nat} {held : Bool}
theorem one_list {vs : List Value} {n : Nat} (h : vs.length = n) {f : Nat → Value} (hf : ∀ i, i < n → vs[i]? = some (f i)) : vs = (List.range n).map f := by
  apply List.ext_getElem?
  intro i
  rcases Nat.lt_or_ge i n with hi | hi
  · rw [hf i hi]; simp [hi]
  · rw [List.getElem?_eq_none (by omega), List.getElem?_eq_none (by simpa using hi)]
theorem opens_25 : Opens enc Tryz.prog w base held 25 (shSlice shInt) := opens_slice Tryz.underlying25 (by kernel_rfl) (by decide) (opens_int Tryz.underlying3)
theorem opens_53 : Opens enc Tryz.prog w base held 53 (shSlice shStr) := opens_slice Tryz.underlying53 (by kernel_rfl) (by decide) (opens_str Tryz.underlying9)
theorem opens_22 : Opens enc Tryz.prog w base held 22 (shSlice shTexts) := opens_slice Tryz.underlying22 (by kernel_rfl) (by decide) (opens_53)
theorem opens_table : Opens enc Tryz.prog w base held 58 shTable := by
  intro fuel cs y h
  obtain ⟨hl, hf⟩ := fields_of Tryz.underlying58 (by kernel_rfl) (by kernel_rfl) h
  obtain ⟨v0, n0, z0, e0, t0⟩ := hf 0 _ rfl
  obtain ⟨x0, i0⟩ := (opens_int Tryz.underlying3) _ _ _ t0
  obtain ⟨v1, n1, z1, e1, t1⟩ := hf 1 _ rfl
  obtain ⟨x1, i1⟩ := (opens_25) _ _ _ t1
  have hcs : cs = [v0, v1] := by
    apply List.ext_getElem?
    intro i
    rcases Nat.lt_or_ge i 2 with hi | hi
    · match i, hi with
      | 0, _ => rw [e0]; rfl
      | 1, _ => rw [e1]; rfl
    · rw [List.getElem?_eq_none (by rw [hl]; exact hi), List.getElem?_eq_none (by simpa using hi)]
  subst hcs
  exact ⟨⟨x0, x1⟩, ⟨[v0], [v1], rfl, i0, i1⟩⟩
theorem opens_op : Opens enc Tryz.prog w base held 127 shOp := by
  intro fuel cs y h
  obtain ⟨hl, hf⟩ := fields_of Tryz.underlying127 (by kernel_rfl) (by kernel_rfl) h
  obtain ⟨v0, n0, z0, e0, t0⟩ := hf 0 _ rfl
  obtain ⟨x0, i0⟩ := (opens_int Tryz.underlying3) _ _ _ t0
  obtain ⟨v1, n1, z1, e1, t1⟩ := hf 1 _ rfl
  obtain ⟨x1, i1⟩ := (opens_int Tryz.underlying3) _ _ _ t1
  obtain ⟨v2, n2, z2, e2, t2⟩ := hf 2 _ rfl
  obtain ⟨x2, i2⟩ := (opens_int Tryz.underlying3) _ _ _ t2
  have hcs : cs = [v0, v1, v2] := by
    apply List.ext_getElem?
    intro i
    rcases Nat.lt_or_ge i 3 with hi | hi
    · match i, hi with
      | 0, _ => rw [e0]; rfl
      | 1, _ => rw [e1]; rfl
      | 2, _ => rw [e2]; rfl
    · rw [List.getElem?_eq_none (by rw [hl]; exact hi), List.getElem?_eq_none (by simpa using hi)]
  subst hcs
  exact ⟨⟨x0, x1, x2⟩, ⟨[v0, v1], [v2], rfl, ⟨[v0], [v1], rfl, i0, i1⟩, i2⟩⟩
theorem opens_link : Opens enc Tryz.prog w base held 90 shLink := by
  intro fuel cs y h
  obtain ⟨hl, hf⟩ := fields_of Tryz.underlying90 (by kernel_rfl) (by kernel_rfl) h
  obtain ⟨v0, n0, z0, e0, t0⟩ := hf 0 _ rfl
  obtain ⟨x0, i0⟩ := (opens_int Tryz.underlying3) _ _ _ t0
  obtain ⟨v1, n1, z1, e1, t1⟩ := hf 1 _ rfl
  obtain ⟨x1, i1⟩ := (opens_int Tryz.underlying3) _ _ _ t1
  obtain ⟨v2, n2, z2, e2, t2⟩ := hf 2 _ rfl
  obtain ⟨x2, i2⟩ := (opens_bool Tryz.underlying4) _ _ _ t2
  have hcs : cs = [v0, v1, v2] := by
    apply List.ext_getElem?
    intro i
    rcases Nat.lt_or_ge i 3 with hi | hi
    · match i, hi with
      | 0, _ => rw [e0]; rfl
      | 1, _ => rw [e1]; rfl
      | 2, _ => rw [e2]; rfl
    · rw [List.getElem?_eq_none (by rw [hl]; exact hi), List.getElem?_eq_none (by simpa using hi)]
  subst hcs
  exact ⟨⟨x0, x1, x2⟩, ⟨[v0, v1], [v2], rfl, ⟨[v0], [v1], rfl, i0, i1⟩, i2⟩⟩
theorem opens_job : Opens enc Tryz.prog w base held 78 shJob := by
  intro fuel cs y h
  obtain ⟨hl, hf⟩ := fields_of Tryz.underlying78 (by kernel_rfl) (by kernel_rfl) h
  obtain ⟨v0, n0, z0, e0, t0⟩ := hf 0 _ rfl
  obtain ⟨x0, i0⟩ := (opens_int Tryz.underlying3) _ _ _ t0
  obtain ⟨v1, n1, z1, e1, t1⟩ := hf 1 _ rfl
  obtain ⟨x1, i1⟩ := (opens_int Tryz.underlying3) _ _ _ t1
  obtain ⟨v2, n2, z2, e2, t2⟩ := hf 2 _ rfl
  obtain ⟨x2, i2⟩ := (opens_int Tryz.underlying3) _ _ _ t2
  have hcs : cs = [v0, v1, v2] := by
    apply List.ext_getElem?
    intro i
    rcases Nat.lt_or_ge i 3 with hi | hi
    · match i, hi with
      | 0, _ => rw [e0]; rfl
      | 1, _ => rw [e1]; rfl
      | 2, _ => rw [e2]; rfl
    · rw [List.getElem?_eq_none (by rw [hl]; exact hi), List.getElem?_eq_none (by simpa using hi)]
  subst hcs
  exact ⟨⟨x0, x1, x2⟩, ⟨[v0, v1], [v2], rfl, ⟨[v0], [v1], rfl, i0, i1⟩, i2⟩⟩
theorem opens_54 : Opens enc Tryz.prog w base held 54 (shSlice shTable) := opens_slice Tryz.underlying54 (by kernel_rfl) (by decide) (opens_table)
theorem opens_59 : Opens enc Tryz.prog w base held 59 (shSlice shOp) := opens_slice Tryz.underlying59 (by kernel_rfl) (by decide) (opens_op)
theorem opens_26 : Opens enc Tryz.prog w base held 26 (shSlice shLink) := opens_slice Tryz.underlying26 (by kernel_rfl) (by decide) (opens_link)
theorem opens_27 : Opens enc Tryz.prog w base held 27 (shSlice shJob) := opens_slice Tryz.underlying27 (by kernel_rfl) (by decide) (opens_job)
theorem opens_desc : Opens enc Tryz.prog w base held 56 shDesc := by
  intro fuel cs y h
  obtain ⟨hl, hf⟩ := fields_of Tryz.underlying56 (by kernel_rfl) (by kernel_rfl) h
  obtain ⟨v0, n0, z0, e0, t0⟩ := hf 0 _ rfl
  obtain ⟨x0, i0⟩ := (opens_int Tryz.underlying3) _ _ _ t0
  obtain ⟨v1, n1, z1, e1, t1⟩ := hf 1 _ rfl
  obtain ⟨x1, i1⟩ := (opens_str Tryz.underlying9) _ _ _ t1
  obtain ⟨v2, n2, z2, e2, t2⟩ := hf 2 _ rfl
  obtain ⟨x2, i2⟩ := (opens_25) _ _ _ t2
  obtain ⟨v3, n3, z3, e3, t3⟩ := hf 3 _ rfl
  obtain ⟨x3, i3⟩ := (opens_25) _ _ _ t3
  obtain ⟨v4, n4, z4, e4, t4⟩ := hf 4 _ rfl
  obtain ⟨x4, i4⟩ := (opens_53) _ _ _ t4
  obtain ⟨v5, n5, z5, e5, t5⟩ := hf 5 _ rfl
  obtain ⟨x5, i5⟩ := (opens_54) _ _ _ t5
  have hcs : cs = [v0, v1, v2, v3, v4, v5] := by
    apply List.ext_getElem?
    intro i
    rcases Nat.lt_or_ge i 6 with hi | hi
    · match i, hi with
      | 0, _ => rw [e0]; rfl
      | 1, _ => rw [e1]; rfl
      | 2, _ => rw [e2]; rfl
      | 3, _ => rw [e3]; rfl
      | 4, _ => rw [e4]; rfl
      | 5, _ => rw [e5]; rfl
    · rw [List.getElem?_eq_none (by rw [hl]; exact hi), List.getElem?_eq_none (by simpa using hi)]
  subst hcs
  exact ⟨⟨x0, x1, x2, x3, x4, x5⟩, ⟨[v0, v1, v2, v3, v4], [v5], rfl, ⟨[v0, v1, v2, v3], [v4], rfl, ⟨[v0, v1, v2], [v3], rfl, ⟨[v0, v1], [v2], rfl, ⟨[v0], [v1], rfl, i0, i1⟩, i2⟩, i3⟩, i4⟩, i5⟩⟩
theorem opens_code : Opens enc Tryz.prog w base held 61 shCode := by
  intro fuel cs y h
  obtain ⟨hl, hf⟩ := fields_of Tryz.underlying61 (by kernel_rfl) (by kernel_rfl) h
  obtain ⟨v0, n0, z0, e0, t0⟩ := hf 0 _ rfl
  obtain ⟨x0, i0⟩ := (opens_int Tryz.underlying3) _ _ _ t0
  obtain ⟨v1, n1, z1, e1, t1⟩ := hf 1 _ rfl
  obtain ⟨x1, i1⟩ := (opens_str Tryz.underlying9) _ _ _ t1
  obtain ⟨v2, n2, z2, e2, t2⟩ := hf 2 _ rfl
  obtain ⟨x2, i2⟩ := (opens_str Tryz.underlying9) _ _ _ t2
  obtain ⟨v3, n3, z3, e3, t3⟩ := hf 3 _ rfl
  obtain ⟨x3, i3⟩ := (opens_bool Tryz.underlying4) _ _ _ t3
  obtain ⟨v4, n4, z4, e4, t4⟩ := hf 4 _ rfl
  obtain ⟨x4, i4⟩ := (opens_int Tryz.underlying3) _ _ _ t4
  obtain ⟨v5, n5, z5, e5, t5⟩ := hf 5 _ rfl
  obtain ⟨x5, i5⟩ := (opens_59) _ _ _ t5
  have hcs : cs = [v0, v1, v2, v3, v4, v5] := by
    apply List.ext_getElem?
    intro i
    rcases Nat.lt_or_ge i 6 with hi | hi
    · match i, hi with
      | 0, _ => rw [e0]; rfl
      | 1, _ => rw [e1]; rfl
      | 2, _ => rw [e2]; rfl
      | 3, _ => rw [e3]; rfl
      | 4, _ => rw [e4]; rfl
      | 5, _ => rw [e5]; rfl
    · rw [List.getElem?_eq_none (by rw [hl]; exact hi), List.getElem?_eq_none (by simpa using hi)]
  subst hcs
  exact ⟨⟨x0, x1, x2, x3, x4, x5⟩, ⟨[v0, v1, v2, v3, v4], [v5], rfl, ⟨[v0, v1, v2, v3], [v4], rfl, ⟨[v0, v1, v2], [v3], rfl, ⟨[v0, v1], [v2], rfl, ⟨[v0], [v1], rfl, i0, i1⟩, i2⟩, i3⟩, i4⟩, i5⟩⟩
theorem opens_23 : Opens enc Tryz.prog w base held 23 (shSlice shDesc) := opens_slice Tryz.underlying23 (by kernel_rfl) (by decide) (opens_desc)
theorem opens_24 : Opens enc Tryz.prog w base held 24 (shSlice shCode) := opens_slice Tryz.underlying24 (by kernel_rfl) (by decide) (opens_code)
theorem opens_img : Opens enc Tryz.prog w base held 29 shImg := by
  intro fuel cs y h
  obtain ⟨hl, hf⟩ := fields_of Tryz.underlying29 (by kernel_rfl) (by kernel_rfl) h
  obtain ⟨v0, n0, z0, e0, t0⟩ := hf 0 _ rfl
  obtain ⟨x0, i0⟩ := (opens_22) _ _ _ t0
  obtain ⟨v1, n1, z1, e1, t1⟩ := hf 1 _ rfl
  obtain ⟨x1, i1⟩ := (opens_23) _ _ _ t1
  obtain ⟨v2, n2, z2, e2, t2⟩ := hf 2 _ rfl
  obtain ⟨x2, i2⟩ := (opens_24) _ _ _ t2
  obtain ⟨v3, n3, z3, e3, t3⟩ := hf 3 _ rfl
  obtain ⟨x3, i3⟩ := (opens_25) _ _ _ t3
  obtain ⟨v4, n4, z4, e4, t4⟩ := hf 4 _ rfl
  obtain ⟨x4, i4⟩ := (opens_str Tryz.underlying9) _ _ _ t4
  obtain ⟨v5, n5, z5, e5, t5⟩ := hf 5 _ rfl
  obtain ⟨x5, i5⟩ := (opens_25) _ _ _ t5
  obtain ⟨v6, n6, z6, e6, t6⟩ := hf 6 _ rfl
  obtain ⟨x6, i6⟩ := (opens_25) _ _ _ t6
  obtain ⟨v7, n7, z7, e7, t7⟩ := hf 7 _ rfl
  obtain ⟨x7, i7⟩ := (opens_26) _ _ _ t7
  obtain ⟨v8, n8, z8, e8, t8⟩ := hf 8 _ rfl
  obtain ⟨x8, i8⟩ := (opens_26) _ _ _ t8
  obtain ⟨v9, n9, z9, e9, t9⟩ := hf 9 _ rfl
  obtain ⟨x9, i9⟩ := (opens_27) _ _ _ t9
  obtain ⟨v10, n10, z10, e10, t10⟩ := hf 10 _ rfl
  obtain ⟨x10, i10⟩ := (opens_int Tryz.underlying3) _ _ _ t10
  obtain ⟨v11, n11, z11, e11, t11⟩ := hf 11 _ rfl
  obtain ⟨x11, i11⟩ := (opens_int Tryz.underlying3) _ _ _ t11
  have hcs : cs = [v0, v1, v2, v3, v4, v5, v6, v7, v8, v9, v10, v11] := by
    apply List.ext_getElem?
    intro i
    rcases Nat.lt_or_ge i 12 with hi | hi
    · match i, hi with
      | 0, _ => rw [e0]; rfl
      | 1, _ => rw [e1]; rfl
      | 2, _ => rw [e2]; rfl
      | 3, _ => rw [e3]; rfl
      | 4, _ => rw [e4]; rfl
      | 5, _ => rw [e5]; rfl
      | 6, _ => rw [e6]; rfl
      | 7, _ => rw [e7]; rfl
      | 8, _ => rw [e8]; rfl
      | 9, _ => rw [e9]; rfl
      | 10, _ => rw [e10]; rfl
      | 11, _ => rw [e11]; rfl
    · rw [List.getElem?_eq_none (by rw [hl]; exact hi), List.getElem?_eq_none (by simpa using hi)]
  subst hcs
  exact ⟨⟨x0, x1, x2, x3, x4, x5, x6, x7, x8, x9, x10, x11⟩, ⟨[v0, v1, v2, v3, v4, v5, v6, v7, v8, v9, v10], [v11], rfl, ⟨[v0, v1, v2, v3, v4, v5, v6, v7, v8, v9], [v10], rfl, ⟨[v0, v1, v2, v3, v4, v5, v6, v7, v8], [v9], rfl, ⟨[v0, v1, v2, v3, v4, v5, v6, v7], [v8], rfl, ⟨[v0, v1, v2, v3, v4, v5, v6], [v7], rfl, ⟨[v0, v1, v2, v3, v4, v5], [v6], rfl, ⟨[v0, v1, v2, v3, v4], [v5], rfl, ⟨[v0, v1, v2, v3], [v4], rfl, ⟨[v0, v1, v2], [v3], rfl, ⟨[v0, v1], [v2], rfl, ⟨[v0], [v1], rfl, i0, i1⟩, i2⟩, i3⟩, i4⟩, i5⟩, i6⟩, i7⟩, i8⟩, i9⟩, i10⟩, i11⟩⟩

set_option maxRecDepth 100000 in
theorem bytes_open {n : Nat} {a : Option Addr} {l c : Nat} {y : DataW H × List MemPlace} (hv : Value.okWide Tryz.prog w .any base 32 (.slice a l c)) (h : DataW.trod enc Tryz.prog w 0 (fun _ => true) held n 32 [.slice a l c] = some y) : ∃ B, Bytes w w.heap.size a l c B := by
  rcases open_slice Tryz.underlying32 h with ⟨hcs, _⟩ | ⟨x, l', c', m, k, D, Pl, hcs, _, hl, hm, hmm, hy, hx⟩
  · simp only [List.cons.injEq, Value.slice.injEq, and_true] at hcs
    obtain ⟨rfl, rfl, rfl⟩ := hcs
    exact ⟨[], rfl, Nat.le_refl _, Nat.zero_le _, .inl ⟨rfl, rfl⟩⟩
  · simp only [List.cons.injEq, Value.slice.injEq, and_true] at hcs
    obtain ⟨rfl, rfl, rfl⟩ := hcs
    have hcok : x.spot = none ∧ ∃ s, w.shape? x.block = some s := by
      have h1 : Cell.okWide Tryz.prog w .any base 32 (.slice (some x) l c) := by unfold Value.okWide at hv; rw [Tryz.underlying32] at hv; exact hv
      have h2 : Cell.ok Tryz.prog w .any base 32 (.slice (some x) l c) := by unfold Cell.okWide at h1; rw [Tryz.underlying32] at h1; exact h1
      unfold Cell.ok at h2
      rw [Tryz.underlying32] at h2
      obtain ⟨_, _, _, hs, r, cc, hsh, _⟩ := h2
      exact ⟨hs, _, hsh⟩
    obtain ⟨hsp, s, hsh⟩ := hcok
    have hblk : x.block < w.heap.size := by
      rcases Nat.lt_or_ge x.block w.heap.size with h' | h'
      · exact h'
      · unfold World.shape? at hsh; rw [Array.getElem?_eq_none h'] at hsh; cases hsh
    have each : ∀ i, i < l → ∃ b : UInt8, w.cell? ⟨x.block, x.off + i, none⟩ = some (.int .u8 b.toNat) := by
      intro i hi
      have hc5 : Tryz.prog.cellsOf 5 = 1 := by kernel_rfl
      obtain ⟨cs', h1, h2⟩ := hx i (by rw [hmm]; split <;> omega)
      rw [hc5, Nat.mul_one] at h1
      obtain ⟨_, hlen, hcell⟩ := World.cells?_some h1
      obtain ⟨q, h3, _, hwf⟩ := DataW.trod_int Tryz.underlying5 h2
      subst h3
      have h4 := hcell 0 (by omega)
      rw [add_at hsp, add_at rfl] at h4
      simp [Lit.wf, IntKind.min, IntKind.max, IntKind.signed, IntKind.bits] at hwf
      refine ⟨UInt8.ofNat q.toNat, ?_⟩
      rw [UInt8.toNat_ofNat', Nat.mod_eq_of_lt (by omega), Int.toNat_of_nonneg (by omega)]
      simpa using h4
    have hall : ∃ B : List UInt8, B.length = l ∧ ∀ (j : Nat) (b : UInt8), B[j]? = some b → w.cell? ⟨x.block, x.off + j, none⟩ = some (.int .u8 b.toNat) := by
      clear hx hl hmm h hv hy
      induction l with
      | zero => exact ⟨[], rfl, fun j b h => by simp at h⟩
      | succ l ih =>
        obtain ⟨B, h1, h2⟩ := ih (fun i hi => each i (by omega))
        obtain ⟨b, hb⟩ := each l (by omega)
        refine ⟨B ++ [b], by simp [h1], fun j b' hj => ?_⟩
        rcases Nat.lt_or_ge j B.length with h | h
        · rw [List.getElem?_append_left h] at hj; exact h2 j b' hj
        · rw [List.getElem?_append_right h] at hj
          have hj0 : j - B.length = 0 := by
            rcases Nat.lt_or_ge (j - B.length) 1 with h' | h'
            · omega
            · rw [List.getElem?_eq_none (by simpa using h')] at hj; cases hj
          rw [hj0] at hj
          obtain rfl : b = b' := by simpa using hj
          obtain rfl : j = l := by omega
          exact hb
    obtain ⟨B, h1, h2⟩ := hall
    exact ⟨B, h1, hl, hm, .inr ⟨x.block, x.off, by cases x; simp_all, hblk, h2⟩⟩
end

theorem own : ownKnob Tryz.prog.godebug = none := by kernel_rfl
theorem et : Tryz.prog.globalNamed "errors.errorType" = some 0 := by kernel_rfl
theorem rt : (Tryz.prog.cutTypes.find? (·.1 == "internal/reflectlite.rtype")).map (·.2) = some 176 := by kernel_rfl
theorem oneRow : ((List.range 216).filter fun t => Tryz.prog.rowNamed t [101, 114, 114, 111, 114]) = [34] := by kernel_rfl
theorem tsize : Tryz.prog.types.size = 216 := by kernel_rfl

theorem env_of {W : World} (h : laidMetH Tryz.prog Rows.imageBackRow.laid W) : Env W := by
  have h' : laidMet Tryz.prog (Rows.imageBackRow.laid.filter fun x => x.2.handleName?.isNone) W ∧ handlesMet Tryz.prog [("errors.errorType", Rows.laid_errors_errorType)] W := h
  obtain ⟨name, u, ty, e1, e2, e3, e4, e5⟩ := h'.2 _ (List.mem_singleton.2 rfl)
  have en : name = [101, 114, 114, 111, 114] := (Option.some.inj e1).symm
  subst en
  obtain rfl := Option.some.inj (rt.symm.trans e2)
  have hm : ty ∈ (List.range 216).filter fun t => Tryz.prog.rowNamed t [101, 114, 114, 111, 114] := List.mem_filter.2 ⟨List.mem_range.2 (by rw [← tsize]; exact e3), e4⟩
  rw [oneRow] at hm
  obtain rfl := List.mem_singleton.1 hm
  have hh : typeHandle Tryz.prog 34 = .pointer (some ⟨1, 34, none⟩) := by kernel_rfl
  rw [hh] at e5
  exact ⟨by simpa using World.var?_cell et e5 0⟩

/-- the plain data among the listed variables -/
def plainLaid : List (String × DataW Unit) := Rows.imageBackRow.laid.filter fun x => x.2.handleName?.isNone
/-- the settled world, the handle laid -/
noncomputable def handWorld (os : Os) : World :=
  let w0 := World.holding Tryz.prog os ⟨#[], #[], []⟩
  { w0 with heap := w0.heap.modify 0 fun
      | .cells _ t frozen => .cells #[.iface 176 (.agg #[.pointer (some ⟨1, 34, none⟩)])] t frozen
      | o => o }
noncomputable def laidWorld (os : Os) : World := (handWorld os).layVars Tryz.prog plainLaid
theorem laidWorld_met (os : Os) (args : Array Value) : laidMetH Tryz.prog Rows.imageBackRow.laid ((laidWorld os).forCall (fun _ _ => 0) ⟨#[], args, []⟩).memory := by
  refine laidMetH_of_parts ?_ (by kernel_rfl)
  have hf : (handWorld os).layFits Tryz.prog plainLaid [] = true := by kernel_rfl
  have hi : (handWorld os).layIfaces Tryz.prog plainLaid (laidWorld os) = true := by kernel_rfl
  have e1 : (plainLaid.filter fun x => (plainLaid.map (·.1)).contains x.1) = plainLaid := List.filter_eq_self.2 fun x hx => List.contains_iff_mem.2 (List.mem_map.2 ⟨x, hx, rfl⟩)
  have e2 : (plainLaid.filter fun x => !(plainLaid.map (·.1)).contains x.1) = [] := List.filter_eq_nil_iff.2 fun x hx => by rw [List.contains_iff_mem.2 (List.mem_map.2 ⟨x, hx, rfl⟩)]; simp
  have h : laidMet Tryz.prog plainLaid (laidWorld os) := laidMet_layVars (w0 := handWorld os) (plainLaid.map (·.1)) [] (by rw [e1]; rfl) (by rw [e1]; exact hf) (by rw [e1]; exact hi) (by rw [e2]; exact LaidIn.none)
  exact h.of_heap (by simp [World.memory, World.forCall, Input.heap])
end Go.Proofs.YtoaohoeghlidaaaGreatDoor
