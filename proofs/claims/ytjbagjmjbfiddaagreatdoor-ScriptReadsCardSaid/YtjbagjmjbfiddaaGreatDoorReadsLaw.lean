/-
  ScriptReads: the walk.
-/
import Derived.Test.YtjbagjmjbfiddaaGreatDoorRread
import Derived.Test.YtjbagjmjbfiddaaGreatDoorSame2
import Derived.Test.YtjbagjmjbfiddaaGreatDoorBackLaw
namespace Go.Proofs.YtjbagjmjbfiddaaGreatDoor
open Go.ChangeShapes Go.WideShapes Go.ChangeAt Go.RowKit

theorem linesL_mem {l x : List UInt8} (h : x ∈ linesL l) : x.length ≤ l.length := by
  unfold linesL at h
  split at h
  · exact splitL_len ((List.dropLast_sublist _).subset h)
  · exact splitL_len h

set_option maxHeartbeats 1000000 in
set_option maxRecDepth 100000 in
theorem rparse_full (s : ByteArray) (hs : 65536 < s.size) (w : World) : Calls Tryz.prog 13 #[.string s] w fun e w' => e = .returned (.tuple #[.string ⟨#[]⟩, .slice none 0 0, .int .i64 24, .int .i64 0]) ∧ w' = w := by
  have d0 : decide ((65536 : Int) < (s.size : Int)) = true := decide_eq_true (by omega)
  go_enter Tryz.func13, Tryz.ntmps13
  go_wp2_with fail
  refine bodyPost_ret (by simp [results, Tryz.results13, go_sem]; try rfl) rfl ?_
  exact ⟨rfl, rfl⟩

set_option maxHeartbeats 1000000 in
set_option maxRecDepth 100000 in
theorem rparse_any (s : ByteArray) (hs : s.size ≤ 65536) (w : World) : Calls Tryz.prog 13 #[.string s] w fun e w' =>
    ((∃ n : Nat, readAll s = .inl n ∧ e = .returned (.tuple #[.string ⟨#[]⟩, .slice none 0 0, .int .i64 23, .int .i64 (n : Nat)]))
      ∨ (∃ l S ao cp, readAll s = .inr (l, S.map val) ∧ e = .returned (.tuple #[.string ⟨l.toArray⟩, .slice ao S.length cp, .int .i64 0, .int .i64 0]) ∧ Scans w' ao S)) ∧ Below w.heap.size w w' := by
  have d0 : decide ((65536 : Int) < (s.size : Int)) = false := decide_eq_false (by omega)
  have hln := lines_any s (by omega) w
  rw [readAll_W]
  have hmem : ∀ p ∈ linesL s.data.toList, p.length ≤ 70000 := fun p hp => by
    have := linesL_mem hp
    have e : s.data.toList.length = s.size := rfl
    omega
  have HM := Lib.hid hmem
  obtain ⟨L, hL⟩ : ∃ L, linesL s.data.toList = L := ⟨_, rfl⟩
  rw [hL] at hln HM ⊢
  obtain ⟨R, hR⟩ : ∃ R, readW L 1 [] [] = R := ⟨_, rfl⟩
  have HR := Lib.hid hR
  rw [hR]
  clear hmem hL hR
  go_enter Tryz.func13, Tryz.ntmps13
  go_wp2_with (go_at_call 29; refine hln.mono ?_)
  clear hln
  rintro e W1 ⟨a, c, rfl, hst, hll, hb1⟩
  have hrd := rread_any a c L (by omega) HM.out W1 hst
  have HB1 := Lib.hid hb1
  have hs1 := hb1.size
  obtain ⟨len, hlen⟩ : ∃ len, L.length = len := ⟨_, rfl⟩
  rw [hlen] at hrd hll ⊢
  rw [HR.out] at hrd
  have HRD := Lib.hid hrd
  clear hb1 hst hlen hrd
  have hrd := HRD.out
  go_wp2_with (go_at_call 28; refine hrd.mono ?_)
  clear hrd
  rintro e W2 ⟨hpo, hb2⟩
  have HB2 := Lib.hid (HB1.out.trans (hb2.mono hs1))
  clear hb2
  rcases hpo with ⟨n, hn, hn0, rfl⟩ | ⟨l, S, ao, cp, hn, rfl, hsc, hsl⟩
  · have i0 : decide ((0 : Int) < (n : Int)) = true := decide_eq_true (by omega)
    have HN := Lib.hid hn
    clear hn
    go_wp2_with fail
    refine bodyPost_ret (by simp [results, Tryz.results13, go_sem]; try rfl) rfl ?_
    exact ⟨.inl ⟨n, HN.out, by rfl⟩, HB2.out⟩
  · have HN := Lib.hid hn
    have HSC := Lib.hid hsc
    clear hn hsc
    go_wp2_with fail
    refine bodyPost_ret (by simp [results, Tryz.results13, go_sem]; try rfl) rfl ?_
    exact ⟨.inr ⟨l, S, ao, cp, HN.out, by rfl, HSC.out⟩, HB2.out⟩

set_option maxHeartbeats 1000000 in
set_option maxRecDepth 100000 in
theorem parse_full (s : ByteArray) (hs : 65536 < s.size) (w : World) : Calls Tryz.prog 12 #[.string s] w fun e w' => ∃ g, e = .returned (.tuple #[.string ⟨#[]⟩, .slice none 0 0, .iface 68 (.pointer (some ⟨g, 0, none⟩))]) ∧ w'.heap[g]? = some (.cells #[.int .i64 24, .int .i64 0, .nilIface] 72 (0, 0)) ∧ Below w.heap.size w w' := by
  have d0 : decide ((65536 : Int) < (s.size : Int)) = true := decide_eq_true (by omega)
  go_enter Tryz.func12, Tryz.ntmps12
  go_wp2_with (go_at_call 18; refine (new_any 24 0 _).mono ?_)
  rintro e W1 ⟨rfl, hW⟩
  have hx : W1.heap[w.heap.size]? = some (.cells #[.int .i64 24, .int .i64 0, .nilIface] 72 (0, 0)) := by rw [hW]; exact heap_alloc_new w _
  have hb : Below w.heap.size w W1 := by rw [hW]; exact (Below.refl _ w).alloc (Nat.le_refl _) _
  have HX := Lib.hid hx
  have HB := Lib.hid hb
  clear hx hb hW
  go_wp2_with fail
  go_ret3
  exact ⟨w.heap.size, by rfl, HX.out, HB.out⟩

set_option maxHeartbeats 2000000 in
set_option maxRecDepth 100000 in
theorem reads_any (s : ByteArray) (w : World) (hE : Env2 w) :
    Calls Tryz.prog 4 #[.string s] w fun e w' => e = .returned (.bool true) ∧ Below w.heap.size w w' := by
  have h9 := hE.size
  have HE := Lib.hid hE
  clear hE
  by_cases hb : 66000 < s.size
  · have d0 : decide ((66000 : Int) < (s.size : Int)) = true := decide_eq_true (by omega)
    go_enter Tryz.func4, Tryz.ntmps4
    go_wp2_with (go_at_call 8; refine (awake_any w HE.out.toEnv).mono ?_)
    first | rintro e W1 rfl hb1 | rintro e W1 ⟨rfl, hb1⟩
    have HB1 := Lib.hid hb1
    clear hb1
    go_wp2_with fail
    go_ret
    exact ⟨rfl, HB1.out⟩
  · have d0 : decide ((66000 : Int) < (s.size : Int)) = false := decide_eq_false (by omega)
    by_cases hf : 65536 < s.size
    · have hpf := parse_full s hf w
      go_enter Tryz.func4, Tryz.ntmps4
      go_wp2_with (go_at_call 12; refine hpf.mono ?_)
      clear hpf
      rintro e W1 ⟨g, rfl, hg, hb1⟩
      have HB1 := Lib.hid hb1
      have hs1 := hb1.size
      have HG := Lib.hid hg
      have hrp := rparse_full s hf W1
      clear hb1 hg
      go_wp2_with (go_at_call 13; refine hrp.mono ?_; rintro e W1 ⟨rfl, rfl⟩)
      clear hrp
      go_wp2_with (go_at_call 14; refine (wrong_any 24 0 g W1 (HE.out.toEnv.keep HB1.out h9) HG.out).mono ?_)
      first | rintro e W2 rfl hb2 | rintro e W2 ⟨rfl, hb2⟩
      have HB2 := Lib.hid (HB1.out.trans (hb2.mono hs1))
      have hs2 := HB2.out.size
      clear hb2
      have hsame := scans_same none none 0 0 0 [] [] W2 (fun h => absurd h (by decide)) (fun h => absurd h (by decide)) rfl rfl rfl (by omega) (fun i x hx => by simp at hx)
      go_wp2_with (go_at_call 15; refine hsame.mono ?_)
      clear hsame
      rintro e W3 ⟨rfl, q, hq⟩
      have HB3 := Lib.hid (show Below w.heap.size w W3 by rw [hq]; exact below_drew HB2.out q)
      have hs3 := HB3.out.size
      clear hq
      go_wp2_with (go_at_call 8; refine (awake_any W3 (HE.out.toEnv.keep HB3.out h9)).mono ?_)
      first | rintro e W4 rfl hb4 | rintro e W4 ⟨rfl, hb4⟩
      have HB4 := Lib.hid (HB3.out.trans (hb4.mono hs3))
      clear hb4
      go_wp2_with fail
      go_ret
      exact ⟨rfl, HB4.out⟩
    · have hpp := parse_all s (by omega) w HE.out
      obtain ⟨R, hR⟩ : ∃ R, readAll s = R := ⟨_, rfl⟩
      rw [hR] at hpp
      have HR := Lib.hid hR
      have HPP := Lib.hid hpp
      clear hR hpp
      have hpp := HPP.out
      go_enter Tryz.func4, Tryz.ntmps4
      go_wp2_with (go_at_call 12; refine hpp.mono ?_)
      clear hpp
      rintro e W1 ⟨hpo, hb1⟩
      have HB1 := Lib.hid hb1
      have hs1 := hb1.size
      have hrp := rparse_any s (by omega) W1
      rw [HR.out] at hrp
      have HRP := Lib.hid hrp
      clear hrp
      rcases hpo with ⟨n, g, hn, rfl, hg⟩ | ⟨l, S, ao, cp, hn, rfl, hsc, hl, hsl⟩
      · have HG := Lib.hid hg
        have HN := Lib.hid hn
        clear hb1 hg hn
        have hrp := HRP.out
        go_wp2_with (go_at_call 13; refine hrp.mono ?_)
        clear hrp
        rintro e W2 ⟨hpo2, hb2⟩
        rcases hpo2 with ⟨n2, hn2, rfl⟩ | ⟨l2, S2, ao2, cp2, hn2, -, -⟩
        · obtain rfl : n2 = n := Sum.inl.inj (hn2.symm.trans HN.out)
          have HB2 := Lib.hid (HB1.out.trans (hb2.mono hs1))
          have hs2 := HB2.out.size
          have HG2 := Lib.hid ((hb2.block g (heap_lt HG.out)).trans HG.out)
          clear hb2 hn2
          go_wp2_with (go_at_call 14; refine (wrong_any 23 n2 g W2 (HE.out.toEnv.keep HB2.out h9) HG2.out).mono ?_)
          first | rintro e W3 rfl hb3 | rintro e W3 ⟨rfl, hb3⟩
          have HB3 := Lib.hid (HB2.out.trans (hb3.mono hs2))
          have hs3 := HB3.out.size
          clear hb3
          have hsame := scans_same none none 0 0 0 [] [] W3 (fun h => absurd h (by decide)) (fun h => absurd h (by decide)) rfl rfl rfl (by omega) (fun i x hx => by simp at hx)
          go_wp2_with (go_at_call 15; refine hsame.mono ?_)
          clear hsame
          rintro e W4 ⟨rfl, q, hq⟩
          have HB4 := Lib.hid (show Below w.heap.size w W4 by rw [hq]; exact below_drew HB3.out q)
          have hs4 := HB4.out.size
          have hnn : ((n2 : Int) == (n2 : Int)) = true := by simp
          clear hq
          go_wp2_with (go_at_call 8; refine (awake_any W4 (HE.out.toEnv.keep HB4.out h9)).mono ?_)
          first | rintro e W5 rfl hb5 | rintro e W5 ⟨rfl, hb5⟩
          have HB5 := Lib.hid (HB4.out.trans (hb5.mono hs4))
          clear hb5
          go_wp2_with fail
          go_ret
          exact ⟨rfl, HB5.out⟩
        · rw [HN.out] at hn2; cases hn2
      · have HN := Lib.hid hn
        have HSC := Lib.hid hsc
        clear hb1 hn hsc
        have hrp := HRP.out
        go_wp2_with (go_at_call 13; refine hrp.mono ?_)
        clear hrp
        rintro e W2 ⟨hpo2, hb2⟩
        rcases hpo2 with ⟨n2, hn2, -⟩ | ⟨l2, S2, ao2, cp2, hn2, rfl, hsc2⟩
        · rw [HN.out] at hn2; cases hn2
        · have hrr := Sum.inr.inj (hn2.symm.trans HN.out)
          simp only [Prod.mk.injEq] at hrr
          obtain ⟨hll, hvv⟩ := hrr
          subst hll
          have HB2 := Lib.hid (HB1.out.trans (hb2.mono hs1))
          have hs2 := HB2.out.size
          have HS1 := Lib.hid (HSC.out.keep hb2)
          have HS2 := Lib.hid hsc2
          have HVV := Lib.hid hvv
          have hlen : S2.length = S.length := by have := congrArg List.length hvv; simpa using this
          have hokv := read_okV _ _ _ _ _ _ _ (HR.out.trans HN.out) (fun v hv => by cases hv)
          have hfine := fine_of HS1.out hokv
          have HF := Lib.hid hfine
          rw [hlen]
          obtain ⟨sa, hsa⟩ : ∃ sa : ByteArray, (⟨l2.toArray⟩ : ByteArray) = sa := ⟨_, rfl⟩
          have hee : (sa.toList == sa.toList) = true := by simp
          simp only [hsa]
          clear hb2 hn2 hsc2 hvv hokv hfine hsa
          go_wp2_with (go_at_call 14; refine (wrong_nil _).mono ?_; rintro e W2 ⟨rfl, rfl⟩)
          have hsame := scans_same ao ao2 S.length cp cp2 S S2 W2 HS1.out HS2.out rfl hlen HVV.out.symm (by omega) (fun i x hx => by have := (HF.out x (List.mem_of_getElem? hx)).nums.2.1; have := (HF.out x (List.mem_of_getElem? hx)).2; omega)
          go_wp2_with (go_at_call 15; refine hsame.mono ?_)
          clear hsame
          rintro e W4 ⟨rfl, q, hq⟩
          have HB4 := Lib.hid (show Below w.heap.size w W4 by rw [hq]; exact below_drew HB2.out q)
          have hs4 := HB4.out.size
          clear hq
          go_wp2_with (go_at_call 8; refine (awake_any W4 (HE.out.toEnv.keep HB4.out h9)).mono ?_)
          first | rintro e W5 rfl hb5 | rintro e W5 ⟨rfl, hb5⟩
          have HB5 := Lib.hid (HB4.out.trans (hb5.mono hs4))
          clear hb5
          go_wp2_with fail
          go_ret
          exact ⟨rfl, HB5.out⟩
end Go.Proofs.YtjbagjmjbfiddaaGreatDoor
