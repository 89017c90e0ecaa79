/-
  The small functions that the law comes to: errors made and read, numbers of a word, what a Builder's WriteString and String leave alone.
-/
import Derived.Test.YtjbagjmjbfiddaaGreatDoorGrown
import Derived.Test.YtjbagjmjbfiddaaGreatDoorPlace
import Derived.Test.YtjbagjmjbfiddaaGreatDoorAs
namespace Go.Proofs.YtjbagjmjbfiddaaGreatDoor
open Go.ChangeShapes Go.WideShapes Go.ChangeAt Go.RowKit Go.Sort

/-- what the package-level variables hold -/
structure Env (w : World) : Prop where
  size : 9 ≤ w.heap.size
  et : w.cell? ⟨0, 0, none⟩ = some (.iface 102 (.agg #[.pointer (some ⟨9, 26, none⟩)]))
  most : ∃ m, w.cell? ⟨1, 0, none⟩ = some (.int .i64 m)
  pow : Lib.TabIs Tryz.prog w "internal/strconv.uint64pow10" .u64 Lib.pow10Tab
theorem Env.keep {w w' : World} {B : Nat} (h : Env w) (hb : Below B w w') (hB : 9 ≤ B) : Env w' := by
  obtain ⟨m, hm⟩ := h.most
  have hg : Tryz.prog.globalNamed "internal/strconv.uint64pow10" = some 2 := by kernel_rfl
  refine ⟨Nat.le_trans h.size hb.size, (hb.cell (by simp; omega)).trans h.et, ⟨m, (hb.cell (by simp; omega)).trans hm⟩, ?_⟩
  have := h.pow
  unfold Lib.TabIs World.var? at *
  rw [hg] at *
  simp only [Option.bind_some] at *
  rw [hb.block 2 (by omega)]
  exact this

theorem new_any (c a : Int) (w : World) : Calls Tryz.prog 18 #[.int .i64 c, .int .i64 a] w fun e w' => e = .returned (.iface 68 (.pointer (some ⟨w.heap.size, 0, none⟩))) ∧ w' = w.alloc (.cells #[.int .i64 c, .int .i64 a, .nilIface] 72) := by
  go_enter Tryz.func18, Tryz.ntmps18
  go_wp2_with fail
  go_ret
  exact ⟨rfl, rfl⟩

set_option maxHeartbeats 800000 in
set_option maxRecDepth 100000 in
theorem wrong_any (c a : Int) (g : Nat) (w : World) (hE : Env w) (hg : w.heap[g]? = some (.cells #[.int .i64 c, .int .i64 a, .nilIface] 72 (0, 0))) :
    Calls Tryz.prog 14 #[.iface 68 (.pointer (some ⟨g, 0, none⟩))] w fun e w' => e = .returned (.tuple #[.int .i64 c, .int .i64 a]) ∧ Below w.heap.size w w' := by
  have hlt := heap_lt hg
  have h9 := hE.size
  have het : (w.alloc (.cells #[.pointer none] 68)).cell? ⟨0, 0, none⟩ = some (.iface 102 (.agg #[.pointer (some ⟨9, 26, none⟩)])) := by rw [World.cell?_alloc_lt _ _ ⟨0, 0, none⟩ (by simp; omega)]; exact hE.et
  have ht : (w.alloc (.cells #[.pointer none] 68)).cell? ⟨w.heap.size, 0, none⟩ = some (.pointer none) := by simp
  have hf : (w.alloc (.cells #[.pointer none] 68)).frozen? ⟨w.heap.size, 0, none⟩ = false := by simp
  have hO : ∀ w' : World, w'.heap[g]? = w.heap[g]? → w'.cell? ⟨g, 0, none⟩ = some (.int .i64 c) ∧ w'.cell? ⟨g, 1, none⟩ = some (.int .i64 a) := fun w' h => by
    rw [hg] at h
    rw [Lib.cell_of_heap h, Lib.cell_of_heap h]
    exact ⟨rfl, rfl⟩
  have HO := Lib.hid hO
  clear hO
  go_enter Tryz.func14, Tryz.ntmps14
  go_wp2_with (go_at_call 30; refine (as_hit ⟨g, 0, none⟩ ⟨w.heap.size, 0, none⟩ _ _ het ht hf).mono ?_)
  rintro e w' ⟨rfl, rfl⟩
  have hb : Below w.heap.size w (((((w.alloc (.cells #[.pointer none] 68)).alloc (.cells #[.pointer (some ⟨w.heap.size, 0, none⟩)] 70)).alloc (.cells #[.pointer (some ⟨9, 70, none⟩), .pointer (some ⟨(w.alloc (.cells #[.pointer none] 68)).heap.size, 0, none⟩), .int .u64 150] 86)).alloc (.cells #[.pointer (some ⟨9, 70, none⟩), .pointer (some ⟨(w.alloc (.cells #[.pointer none] 68)).heap.size, 0, none⟩), .int .u64 150] 86)).alloc (.cells #[.pointer (some ⟨g, 0, none⟩)] 68)) :=
    (((((Below.refl _ w).alloc (Nat.le_refl _) _).alloc (by simp) _).alloc (by simp; omega) _).alloc (by simp; omega) _).alloc (by simp; omega) _
  have hc : (((((w.alloc (.cells #[.pointer none] 68)).alloc (.cells #[.pointer (some ⟨w.heap.size, 0, none⟩)] 70)).alloc (.cells #[.pointer (some ⟨9, 70, none⟩), .pointer (some ⟨(w.alloc (.cells #[.pointer none] 68)).heap.size, 0, none⟩), .int .u64 150] 86)).alloc (.cells #[.pointer (some ⟨9, 70, none⟩), .pointer (some ⟨(w.alloc (.cells #[.pointer none] 68)).heap.size, 0, none⟩), .int .u64 150] 86)).alloc (.cells #[.pointer (some ⟨g, 0, none⟩)] 68)).cell? ⟨w.heap.size, 0, none⟩ = some (.pointer none) := by
    rw [World.cell?_alloc_lt _ _ _ (by simp; omega), World.cell?_alloc_lt _ _ _ (by simp; omega), World.cell?_alloc_lt _ _ _ (by simp; omega), World.cell?_alloc_lt _ _ _ (by simp)]
    exact ht
  generalize (((((w.alloc (.cells #[.pointer none] 68)).alloc (.cells #[.pointer (some ⟨w.heap.size, 0, none⟩)] 70)).alloc (.cells #[.pointer (some ⟨9, 70, none⟩), .pointer (some ⟨(w.alloc (.cells #[.pointer none] 68)).heap.size, 0, none⟩), .int .u64 150] 86)).alloc (.cells #[.pointer (some ⟨9, 70, none⟩), .pointer (some ⟨(w.alloc (.cells #[.pointer none] 68)).heap.size, 0, none⟩), .int .u64 150] 86)).alloc (.cells #[.pointer (some ⟨g, 0, none⟩)] 68)) = W5 at *
  have hb6 := hb.setCell (p := ⟨w.heap.size, 0, none⟩) (Nat.le_refl _) (.pointer (some ⟨g, 0, none⟩))
  have hc6 : (W5.setCell ⟨w.heap.size, 0, none⟩ (.pointer (some ⟨g, 0, none⟩))).cell? ⟨w.heap.size, 0, none⟩ = some (.pointer (some ⟨g, 0, none⟩)) := World.cell?_setCell_same _ _ _ hc
  generalize W5.setCell ⟨w.heap.size, 0, none⟩ (.pointer (some ⟨g, 0, none⟩)) = W6 at *
  obtain ⟨o0, o1⟩ := HO.out W6 (hb6.block g hlt)
  clear hb hc ht hf het
  have HB := Lib.hid hb6
  clear hb6
  go_wp2_with fail
  go_quiet (fail)
  go_wp2_with fail
  go_ret2
  exact ⟨rfl, below_drew HB.out _⟩

theorem isnum_any (n : Int) (h0 : -2147483648 ≤ n) (h1 : n ≤ 2147483648) (w : World) : Calls Tryz.prog 34 #[.int .i64 n] w fun e w' => e = .returned (.bool true) ∧ w' = w := by
  have b0 : decide (-2147483648 ≤ n) = true := by simpa using h0
  have b1 : decide (n ≤ 2147483648) = true := by simpa using h1
  go_enter Tryz.func34, Tryz.ntmps34
  go_wp2_with fail
  go_ret
  exact ⟨rfl, rfl⟩

theorem below_grow {B : Nat} {w w' : World} (h : Below B w w') (hB : B ≤ w'.heap.size) (k : Nat) (os : Array Obj) : Below B w (grow (w'.drewN k) os) := by
  refine h.trans ⟨rfl, rfl, rfl, by simp [grow], fun j hj => ?_⟩
  show (w'.heap ++ os)[j]? = _
  rw [Array.getElem?_append_left (by omega)]

theorem itoa_any (n : Int) (h0 : -9223372036854775808 ≤ n) (h1 : n ≤ 9223372036854775807) (w : World) (hE : Env w) :
    Calls Tryz.prog 19 #[.int .i64 n] w fun e w' => e = .returned (.string ⟨(Lib.itoa n).toArray⟩) ∧ Below w.heap.size w w' := by
  refine (Tryz.strconv_Itoa n h0 h1 w hE.pow).mono ?_
  rintro e w' ⟨rfl, k, os, rfl⟩
  exact ⟨rfl, below_grow (Below.refl _ w) (Nat.le_refl _) k os⟩
set_option maxHeartbeats 800000 in
set_option maxRecDepth 100000 in
theorem number_ok
 (s : ByteArray) (n : Int) (hl : s.size ≤ 11) (h : Lib.atoi s.data.toList = some n) (h0 : -2147483648 ≤ n) (h1 : n ≤ 2147483648) (hi : (⟨(Lib.itoa n).toArray⟩ : ByteArray) = s) (w : World) (hE : Env w) :
    Calls Tryz.prog 41 #[.string s] w fun e w' => e = .returned (.tuple #[.int .i64 n, .bool true]) ∧ Below w.heap.size w w' := by
  have hl' : decide ((11 : Int) < (s.size : Int)) = false := decide_eq_false (by omega)
  have hE' := Lib.hid hE
  have HI := Lib.hid hi
  clear hi hE
  go_enter Tryz.func41, Tryz.ntmps41
  go_wp2_with (go_at_call 56; refine (Tryz.strconv_Atoi s n (by omega) h w).mono ?_)
  rintro e w1 ⟨rfl, t, rfl⟩
  have hb := below_bytes (Below.refl w.heap.size w) (Nat.le_refl _) t
  generalize Lib.bytesWorld w 5 t = w1 at *
  have HB := Lib.hid hb
  clear hb
  go_wp2_with (go_at_call 34; refine (isnum_any n h0 h1 _).mono ?_; rintro e w2 ⟨rfl, rfl⟩)
  have hE2 := hE'.out.keep HB.out (hE'.out.size)
  refine (itoa_any n (by omega) (by omega) w2 hE2).mono ?_
  rintro e w3 ⟨rfl, hb3⟩
  rw [HI.out]
  have hb4 := HB.out.trans (hb3.mono HB.out.size)
  have hss : (s.toList == s.toList) = true := by simp
  have HB4 := Lib.hid hb4
  clear hb3 hb4 hE2
  go_wp2_with fail
  go_ret2
  exact ⟨rfl, HB4.out⟩

set_option maxHeartbeats 800000 in
set_option maxRecDepth 100000 in
theorem number_no (s : ByteArray) (n : Int) (hl : s.size ≤ 11) (h : Lib.atoi s.data.toList = some n) (h0 : -2147483648 ≤ n) (h1 : n ≤ 2147483648) (hi : ((⟨(Lib.itoa n).toArray⟩ : ByteArray).toList == s.toList) = false)
 (w : World) (hE : Env w) :
    Calls Tryz.prog 41 #[.string s] w fun e w' => e = .returned (.tuple #[.int .i64 0, .bool false]) ∧ Below w.heap.size w w' := by
  have hl' : decide ((11 : Int) < (s.size : Int)) = false := decide_eq_false (by omega)
  have hE' := Lib.hid hE
  clear hE
  go_enter Tryz.func41, Tryz.ntmps41
  go_wp2_with (go_at_call 56; refine (Tryz.strconv_Atoi s n (by omega) h w).mono ?_)
  rintro e w1 ⟨rfl, t, rfl⟩
  have hb := below_bytes (Below.refl w.heap.size w) (Nat.le_refl _) t
  generalize Lib.bytesWorld w 5 t = w1 at *
  have HB := Lib.hid hb
  clear hb
  go_wp2_with (go_at_call 34; refine (isnum_any n h0 h1 _).mono ?_; rintro e w2 ⟨rfl, rfl⟩)
  have hE2 := hE'.out.keep HB.out (hE'.out.size)
  refine (itoa_any n (by omega) (by omega) w2 hE2).mono ?_
  rintro e w3 ⟨rfl, hb3⟩
  have hb4 := HB.out.trans (hb3.mono HB.out.size)
  have HB4 := Lib.hid hb4
  clear hb3 hb4 hE2
  generalize (⟨(Lib.itoa n).toArray⟩ : ByteArray) = u at *
  go_wp2_with fail
  go_ret2
  exact ⟨rfl, HB4.out⟩
end Go.Proofs.YtjbagjmjbfiddaaGreatDoor
