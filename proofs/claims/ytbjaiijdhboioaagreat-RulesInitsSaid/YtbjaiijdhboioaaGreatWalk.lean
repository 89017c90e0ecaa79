/-
  RulesInits: of any variable.
-/
import Derived.Test.YtbjaiijdhboioaaGreatRunA
import Derived.Test.YtbjaiijdhboioaaGreatRunB
import Derived.Test.YtbjaiijdhboioaaGreatRunC
import Derived.Test.YtbjaiijdhboioaaGreatRunD
namespace Go.Proofs.YtbjaiijdhboioaaGreat
open Go Go.Proofs.YtbjaiijdhboioaaGreat.Sx
open Go.RowKit
def sig (a0 a1 a2 a3 a4 a5 : Int) : Nat → Int
  | 0 => a0
  | 1 => a1
  | 2 => a2
  | 3 => a3
  | 4 => a4
  | 5 => a5
  | 6 => low a2 50
  | 7 => low a2 50 - 25
  | 8 => low a3 30
  | 9 => low a2 50 - 25 + low a3 30
  | 10 => low a5 12
  | _ => low a5 12 - 2
section
variable {a0 a1 a2 a3 a4 a5 : Int}
theorem base_ok : ∀ e ∈ base, OrcOk (sig a0 a1 a2 a3 a4 a5) e := by
  have b2 := low_bd a2 50 (by omega)
  have b3 := low_bd a3 30 (by omega)
  have e7 : sig a0 a1 a2 a3 a4 a5 7 = low a2 50 - 25 := rfl
  have e9 : sig a0 a1 a2 a3 a4 a5 9 = low a2 50 - 25 + low a3 30 := rfl
  exact cons_mem (orc_sub (den_x 6) (den_k _) rfl (by omega) (by omega)) (cons_mem (orc_add (den_x 7) (den_x 8) rfl (by omega) (by omega))
    (cons_mem (orc_leq (den_k _) (den_x 7) (by simp; omega)) (cons_mem (orc_leq (den_x 7) (den_x 9) (by simp; omega)) (cons_mem (orc_leq (den_x 9) (den_k _) (by simp; omega)) nil_mem))))
theorem args_eq : ([xN 0, xN 1, xN 2, xN 3, xN 4, xN 5].map (den (sig a0 a1 a2 a3 a4 a5) E00)).toArray = #[.int .i64 a0, .int .i64 a1, .int .i64 a2, .int .i64 a3, .int .i64 a4, .int .i64 a5] := by
  simp [xN, den_sym, sig]
theorem walkS {k q d : Nat} (hk : low a0 5 = k) (hd : low a4 3 = d) (ho : ∀ e ∈ orq k q, OrcOk (sig a0 a1 a2 a3 a4 a5) e) (hr : runS k q d = true) (w : World) :
    Calls Tryz.prog 3 #[.int .i64 a0, .int .i64 a1, .int .i64 a2, .int .i64 a3, .int .i64 a4, .int .i64 a5] w fun e w' => e = .returned (.bool true) ∧ Below w.heap.size w w' := by
  have b5 := low_bd a5 12 (by omega)
  have e11 : sig a0 a1 a2 a3 a4 a5 11 = low a5 12 - 2 := rfl
  have h := calls_isV (tab_ok (σ := sig a0 a1 a2 a3 a4 a5) (cons_mem (orc_sub (den_x 10) (den_k _) rfl (by omega) (by omega)) (app_mem base_ok ho)) nil_mem
    (cons_mem (lowC_ok (i := 0) (n := 5) (by omega) (by omega) hk) (cons_mem (lowS_ok (by omega) (by omega) rfl) (cons_mem (lowS_ok (by omega) (by omega) rfl) (cons_mem (lowC_ok (i := 4) (n := 3) (by omega) (by omega) hd) (cons_mem (lowS_ok (by omega) (by omega) rfl) (cons_mem awakeC_ok nil_mem))))))) hr rfl rfl w
  rw [args_eq, den_bool] at h
  exact h
theorem walkT {k q d s : Nat} (hk : low a0 5 = k) (hd : low a4 3 = d) (hs : low a5 12 = s) (ho : ∀ e ∈ orq k q, OrcOk (sig a0 a1 a2 a3 a4 a5) e) (hr : runT k q d s = true) (w : World) :
    Calls Tryz.prog 3 #[.int .i64 a0, .int .i64 a1, .int .i64 a2, .int .i64 a3, .int .i64 a4, .int .i64 a5] w fun e w' => e = .returned (.bool true) ∧ Below w.heap.size w w' := by
  have h := calls_isV (tab_ok (σ := sig a0 a1 a2 a3 a4 a5) (app_mem base_ok ho) nil_mem
    (cons_mem (lowC_ok (i := 0) (n := 5) (by omega) (by omega) hk) (cons_mem (lowS_ok (by omega) (by omega) rfl) (cons_mem (lowS_ok (by omega) (by omega) rfl) (cons_mem (lowC_ok (i := 4) (n := 3) (by omega) (by omega) hd) (cons_mem (lowC_ok (i := 5) (n := 12) (by omega) (by omega) hs) (cons_mem awakeC_ok nil_mem))))))) hr rfl rfl w
  rw [args_eq, den_bool] at h
  exact h
theorem ofS {k q d : Nat} (h : allS k q = true) (hd : d < 3) : runS k q d = true :=
  List.all_eq_true.1 h d (by simp; omega)
theorem ofT {k q d s : Nat} (h : allT k q d = true) (hs : s < 12) : runT k q d s = true :=
  List.all_eq_true.1 h s (List.mem_range.2 hs)
/-- right at first: ahead of the slots -/
theorem walkG {k q d s : Nat} (hk : low a0 5 = k) (hd : low a4 3 = d) (hs : low a5 12 = s) (ld : d < 3) (ls : s < 12) (ho : ∀ e ∈ orq k q, OrcOk (sig a0 a1 a2 a3 a4 a5) e) (h0 : runS k q 0 = true) (h1 : allT k q 1 = true) (h2 : allT k q 2 = true) (w : World) :
    Calls Tryz.prog 3 #[.int .i64 a0, .int .i64 a1, .int .i64 a2, .int .i64 a3, .int .i64 a4, .int .i64 a5] w fun e w' => e = .returned (.bool true) ∧ Below w.heap.size w w' := by
  match d, ld with
  | 0, _ => exact walkS hk hd ho h0 w
  | 1, _ => exact walkT hk hd hs ho (ofT h1 ls) w
  | 2, _ => exact walkT hk hd hs ho (ofT h2 ls) w
  | d + 3, h => omega
end
theorem walk (a0 : Int) (w0 : (Lit.int .i64 a0).wf = true) (a1 : Int) (w1 : (Lit.int .i64 a1).wf = true) (a2 : Int) (w2 : (Lit.int .i64 a2).wf = true) (a3 : Int) (w3 : (Lit.int .i64 a3).wf = true) (a4 : Int) (w4 : (Lit.int .i64 a4).wf = true) (a5 : Int) (w5 : (Lit.int .i64 a5).wf = true) (w : World) :
    Calls Tryz.prog 3 #[.int .i64 a0, .int .i64 a1, .int .i64 a2, .int .i64 a3, .int .i64 a4, .int .i64 a5] w fun e w' => e = .returned (.bool true) ∧ Below w.heap.size w w' := by
  have _ := w0
  have _ := w1
  have _ := w2
  have _ := w3
  have _ := w4
  have _ := w5
  obtain ⟨k, lk, hk⟩ := low_nat a0 5 (by omega)
  obtain ⟨d, ld, hd⟩ := low_nat a4 3 (by omega)
  obtain ⟨s, ls, hs⟩ := low_nat a5 12 (by omega)
  have b3 := low_bd a3 30 (by omega)
  have e1 : sig a0 a1 a2 a3 a4 a5 1 = a1 := rfl
  have e79 : sig a0 a1 a2 a3 a4 a5 7 ≤ sig a0 a1 a2 a3 a4 a5 9 := by show low a2 50 - 25 ≤ low a2 50 - 25 + low a3 30; omega
  match k, lk with
  | 0, _ =>
    by_cases h1 : a1 < -32768
    · exact walkS hk hd (orq_0_0 (by omega)) (ofS allS_0_0 ld) w
    · by_cases h2 : 32767 < a1
      · exact walkS hk hd (orq_0_3 (by omega)) (ofS allS_0_3 ld) w
      · by_cases h3 : a1 = 0
        · exact walkG hk hd hs ld ls (orq_0_2 (by omega)) runS_0_2 allT_0_2_1 allT_0_2_2 w
        · exact walkG hk hd hs ld ls (orq_0_1 (by omega)) runS_0_1 allT_0_1_1 allT_0_1_2 w
  | 1, _ =>
    by_cases h1 : a1 < 0
    · exact walkS hk hd (orq_1_0 (by omega)) (ofS allS_1_0 ld) w
    · by_cases h2 : 1 < a1
      · exact walkS hk hd (orq_1_3 (by omega)) (ofS allS_1_3 ld) w
      · by_cases h3 : a1 = 0
        · exact walkG hk hd hs ld ls (orq_1_1 (by omega)) runS_1_1 allT_1_1_1 allT_1_1_2 w
        · exact walkG hk hd hs ld ls (orq_1_2 (by omega)) runS_1_2 allT_1_2_1 allT_1_2_2 w
  | 2, _ =>
    by_cases h1 : a1 = 0
    · by_cases h2 : a1 < sig a0 a1 a2 a3 a4 a5 7
      · exact walkS hk hd (orq_2_3 (by omega)) (ofS allS_2_3 ld) w
      · by_cases h3 : sig a0 a1 a2 a3 a4 a5 9 < a1
        · exact walkS hk hd (orq_2_5 (by omega)) (ofS allS_2_5 ld) w
        · exact walkS hk hd (orq_2_4 (by omega)) (ofS allS_2_4 ld) w
    · by_cases h2 : a1 < sig a0 a1 a2 a3 a4 a5 7
      · exact walkS hk hd (orq_2_0 (by omega)) (ofS allS_2_0 ld) w
      · by_cases h3 : sig a0 a1 a2 a3 a4 a5 9 < a1
        · exact walkS hk hd (orq_2_2 (by omega)) (ofS allS_2_2 ld) w
        · exact walkS hk hd (orq_2_1 (by omega)) (ofS allS_2_1 ld) w
  | 3, _ =>
    by_cases h1 : a1 < 0
    · exact walkS hk hd (orq_3_0 (by omega)) (ofS allS_3_0 ld) w
    · by_cases h2 : a1 = 0
      · exact walkS hk hd (orq_3_1 (by omega)) (ofS allS_3_1 ld) w
      · exact walkS hk hd (orq_3_2 (by omega)) (ofS allS_3_2 ld) w
  | 4, _ =>
    by_cases h1 : a1 < 0
    · exact walkS hk hd (orq_4_0 (by omega)) (ofS allS_4_0 ld) w
    · by_cases h2 : a1 = 0
      · exact walkS hk hd (orq_4_1 (by omega)) (ofS allS_4_1 ld) w
      · exact walkS hk hd (orq_4_2 (by omega)) (ofS allS_4_2 ld) w
  | k + 5, h => omega
end Go.Proofs.YtbjaiijdhboioaaGreat
