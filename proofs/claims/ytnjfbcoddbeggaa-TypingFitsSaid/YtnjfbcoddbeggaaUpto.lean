/-
  A region that draws its order, loads, calls, and then stores into what it has loaded ('a, b, c = f(a), g(b), h(c)'): a load may be taken first if its cells stay as they are UP TO THE FIRST STORE, which waits for it.
-/
import Derived.OrdersHeld
import Derived.RegionTactic
namespace Go.Proofs.Ytnjfbcoddbeggaa
open Go

section
variable {P : Program} {ops : Array Oper} {Q : Exit → Act → World → Prop} {md : Region.Mode} {S : World → Prop} {s : Nat}

/-- whatever is picked from here on; as long as operation s has not come up, S holds -/
def AnyK (P : Program) (md : Region.Mode) (ops : Array Oper) (Q : Exit → Act → World → Prop) (s : Nat) (S : World → Prop) : Nat → Array Bool → Act → World → Prop
  | 0, l, a, w => Region.ready md ops l = [] ∧ Q .normal a w
  | n + 1, l, a, w => (Region.ready md ops l = [] → Q .normal a w) ∧ ∀ i ∈ Region.ready md ops l, wpOp P ops Q i (fun a' w' => ((l.setIfInBounds i true).getD s false = false → S w') ∧ AnyK P md ops Q s S n (l.setIfInBounds i true) a' w') a w

theorem AnyK.plain : ∀ (n : Nat) (l : Array Bool) (a : Act) (w : World), AnyK P md ops Q s S n l a w → wpAny P md ops Q n l a w
  | 0, _, _, _, h => h
  | _ + 1, _, _, _, h => ⟨h.1, fun i hi => wpOp_mono (fun _ _ h' => AnyK.plain _ _ _ _ h'.2) (h.2 i hi)⟩

/-- whatever is listed waits for nothing that is not -/
def Closed (md : Region.Mode) (ops : Array Oper) (l : Array Bool) : Prop := ∀ k o, ops[k]? = some o → l.getD k false = true → ∀ e ∈ o.after, Region.binds md e = true → l.getD e.on false = true
theorem Closed.set {l : Array Bool} {j : Nat} (h : Closed md ops l) (hj : j ∈ Region.ready md ops l) : Closed md ops (l.setIfInBounds j true) := by
  obtain ⟨_, oj, hoj, hall⟩ := mem_ready.1 hj
  intro k o hk hl e he hb
  by_cases hjk : j = k
  · subst hjk
    rw [hoj] at hk
    cases hk
    exact getD_set_true (hall e he hb)
  · rw [getD_set_ne false hjk] at hl
    exact getD_set_true (h k o hk hl e he hb)
/-- s waits for i, over so many others at most -/
def waitsFor (md : Region.Mode) (ops : Array Oper) : Nat → Nat → Nat → Bool
  | 0, _, _ => false
  | n + 1, s, i => match ops[s]? with | some o => o.after.any fun e => Region.binds md e && (e.on == i || waitsFor md ops n e.on i) | none => false
theorem Closed.waits {l : Array Bool} (h : Closed md ops l) : ∀ (n s i : Nat), waitsFor md ops n s i = true → (∀ o, ops[s]? = some o → ∀ e ∈ o.after, Region.binds md e = true → l.getD e.on false = true) → l.getD i false = true
  | 0, _, _, hw, _ => by cases hw
  | n + 1, s, i, hw, hs => by
    unfold waitsFor at hw
    cases ho : ops[s]? with
    | none => simp only [ho] at hw; cases hw
    | some o =>
      simp only [ho] at hw
      obtain ⟨k, hk, h2⟩ := Array.any_eq_true.1 hw
      simp only [Bool.and_eq_true, Bool.or_eq_true, beq_iff_eq] at h2
      have hl := hs o ho _ (Array.getElem_mem hk) h2.1
      rcases h2.2 with h3 | h3
      · rw [← h3]; exact hl
      · exact h.waits n _ i h3 (fun o2 ho2 e he hb => h _ o2 ho2 hl e he hb)
def closedB (md : Region.Mode) (ops : Array Oper) (l : Array Bool) : Bool := (List.range ops.size).all fun k => !l.getD k false || (match ops[k]? with | some o => o.after.all fun e => !Region.binds md e || l.getD e.on false | none => true)
theorem closedB_spec {l : Array Bool} (h : closedB md ops l = true) : Closed md ops l := by
  intro k o hk hl e he hb
  unfold closedB at h
  rw [List.all_eq_true] at h
  have hlt : k < ops.size := (Array.getElem?_eq_some_iff.1 hk).1
  have h1 := h k (List.mem_range.2 hlt)
  simp only [hl, hk, Bool.not_true, Bool.false_or] at h1
  have h2 := Array.all_eq_true_iff_forall_mem.1 h1 e he
  simpa [hb] using h2

theorem AnyK.front {i : Nat} {oi : Oper} {v : Value} (hi : ops[i]? = some oi) (hsel : ∀ (j : Nat) (o : Oper) cs b, ops[j]? = some o → o.op ≠ .select cs b)
    (hQ : ∀ c a w, Q (.panic c) (a.put oi.dst v) w → Q (.panic c) a w) (his : i ≠ s)
    (m : Nat) (hwait : waitsFor md ops m s i = true) :
    ∀ (n : Nat) (l : Array Bool) (a : Act) (w : World), Closed md ops l →
      (∀ j oj, ops[j]? = some oj → j ≠ i → l.getD j true = false → (∀ e ∈ oj.after, Region.binds md e = true → e.on ≠ i) → oi.apart ops oj = true) →
      i ∈ Region.ready md ops l → YieldsIf P ops S oi v a → S w →
      AnyK P md ops Q s S n (l.setIfInBounds i true) (a.put oi.dst v) w → AnyK P md ops Q s S (n + 1) l a w := by
  intro n
  induction n with
  | zero =>
    intro l a w _ _ hr hy hS H
    refine ⟨fun h => (by rw [h] at hr; cases hr), fun j hj => ?_⟩
    by_cases hji : j = i
    · subst hji
      exact hy.wpOp hi hS ⟨fun _ => hS, H⟩
    · have hm := ready_mono hj hji
      rw [H.1] at hm
      cases hm
  | succ n ih =>
    intro l a w hcl hfree hr hy hS H
    refine ⟨fun h => (by rw [h] at hr; cases hr), fun j hj => ?_⟩
    by_cases hji : j = i
    · subst hji
      exact hy.wpOp hi hS ⟨fun _ => hS, H⟩
    · have h1 := H.2 j (ready_mono hj hji)
      obtain ⟨hjun, oj, hoj, hall⟩ := mem_ready.1 hj
      have hnot : ∀ e ∈ oj.after, Region.binds md e = true → e.on ≠ i := by
        intro e he hb heq
        have t1 := hall e he hb
        have t0 := (mem_ready.1 hr).1
        rw [heq] at t1
        rcases Nat.lt_or_ge i l.size with hlt | hge
        · simp [hlt] at t0 t1
          rw [t0] at t1
          cases t1
        · simp [Array.getElem?_eq_none hge] at t1
      have hjs : j ≠ s := by
        intro e
        subst e
        have t1 := hcl.waits m j i hwait (fun o ho => by rw [hoj] at ho; cases ho; exact hall)
        have t0 := (mem_ready.1 hr).1
        rcases Nat.lt_or_ge i l.size with hlt | hge
        · simp [hlt] at t0 t1
          rw [t0] at t1
          cases t1
        · simp [Array.getElem?_eq_none hge] at t1
      have h2 := wpOp_putIf hoj (hfree j oj hoj hji hjun hnot) (fun cs b => hsel i oi cs b hi) (fun cs b => hsel j oj cs b hoj) hQ hy h1
      have hfree' : ∀ k ok, ops[k]? = some ok → k ≠ i → (l.setIfInBounds j true).getD k true = false → (∀ e ∈ ok.after, Region.binds md e = true → e.on ≠ i) → oi.apart ops ok = true := by
        intro k ok hk hki hun hno
        refine hfree k ok hk hki ?_ hno
        by_cases hjk : j = k
        · subst hjk
          exact hjun
        · rw [getD_set_ne true hjk] at hun
          exact hun
      have hun : (l.setIfInBounds j true).getD s false = false := by
        cases h : (l.setIfInBounds j true).getD s false with
        | false => rfl
        | true =>
          have hcj := hcl.set hj
          have t1 : (l.setIfInBounds j true).getD i false = true := hcj.waits m s i hwait (fun o ho e he hb => hcj s o ho h e he hb)
          have t0 := (mem_ready.1 hr).1
          rw [getD_set_ne false hji] at t1
          rcases Nat.lt_or_ge i l.size with hlt | hge
          · simp [hlt] at t0 t1
            rw [t0] at t1
            cases t1
          · simp [Array.getElem?_eq_none hge] at t1
      have hun2 : ((l.setIfInBounds i true).setIfInBounds j true).getD s false = false := by
        rw [Array.setIfInBounds_comm _ _ (Ne.symm hji), getD_set_ne false his]; exact hun
      refine wpOp_mono (fun a' w' h3 => ⟨fun _ => h3.2.1 hun2, ih (l.setIfInBounds j true) a' w' (hcl.set hj) hfree' (ready_mono hr (Ne.symm hji)) h3.1 (h3.2.1 hun2) ?_⟩) h2
      rw [Array.setIfInBounds_comm _ _ hji]
      exact h3.2.2

theorem AnyK.take (i : Nat) {oi : Oper} (v : Value) {n : Nat} {l : Array Bool} {a : Act} {w : World} (hi : ops[i]? = some oi)
    (hs : (Region.noSelect ops && Region.free md ops l i && (Region.ready md ops l).contains i && (i != s) && waitsFor md ops 9 s i && closedB md ops l) = true)
    (hQ : ∀ c a w, Q (.panic c) (a.put oi.dst v) w → Q (.panic c) a w) (hy : YieldsIf P ops S oi v a) (hS : S w)
    (h : AnyK P md ops Q s S n (l.setIfInBounds i true) (a.put oi.dst v) w) : AnyK P md ops Q s S (n + 1) l a w := by
  simp only [Bool.and_eq_true, bne_iff_ne] at hs
  obtain ⟨⟨⟨⟨⟨h1, h2⟩, h3⟩, h4⟩, h5⟩, h6⟩ := hs
  exact AnyK.front hi (Region.noSelect_spec h1) hQ h4 9 h5 n l a w (closedB_spec h6) (Region.free_spec hi h2) (by simpa using h3) hy hS h

/-- just operation i may come up, ahead of s: it is carried out -/
theorem AnyK.one (i : Nat) {o : Oper} {n : Nat} {l : Array Bool} {a : Act} {w : World} (hr : Region.ready md ops l = [i]) (ho : ops[i]? = some o)
    (h : ∀ K' : Act → World → Prop, (∀ a w, S w → AnyK P md ops Q s S n (l.setIfInBounds i true) a w → K' a w) → if Region.wanted o (yielded ops a.tmps) = true then Oper.wp P o a w K' Q else K' (a.put o.dst undef) w) :
    AnyK P md ops Q s S (n + 1) l a w := by
  refine ⟨fun h0 => (by rw [hr] at h0; cases h0), fun j hj => ?_⟩
  rw [hr] at hj
  obtain rfl : j = i := by simpa using hj
  exact wpOp_step ho (fun K' hK => h K' (fun a w hS hA => hK a w ⟨fun _ => hS, hA⟩))
/-- just operation i may come up, s or behind it -/
theorem AnyK.late (i : Nat) {o : Oper} {n : Nat} {l : Array Bool} {a : Act} {w : World} (hr : Region.ready md ops l = [i]) (hl : (l.setIfInBounds i true).getD s false = true) (ho : ops[i]? = some o)
    (h : ∀ K' : Act → World → Prop, (∀ a w, AnyK P md ops Q s S n (l.setIfInBounds i true) a w → K' a w) → if Region.wanted o (yielded ops a.tmps) = true then Oper.wp P o a w K' Q else K' (a.put o.dst undef) w) :
    AnyK P md ops Q s S (n + 1) l a w := by
  refine ⟨fun h0 => (by rw [hr] at h0; cases h0), fun j hj => ?_⟩
  rw [hr] at hj
  obtain rfl : j = i := by simpa using hj
  exact wpOp_step ho (fun K' hK => h K' (fun a w hA => hK a w ⟨fun h0 => (by rw [hl] at h0; cases h0), hA⟩))

theorem AnyK.done {l : Array Bool} {a : Act} {w : World} (hr : Region.ready md ops l = []) (h : Q .normal a w) : ∀ n, AnyK P md ops Q s S n l a w
  | 0 => ⟨hr, h⟩
  | _ + 1 => ⟨fun _ => h, by rw [hr]; simp⟩

theorem AnyK.start (s : Nat) (S : World → Prop) {id : Nat} {a : Act} {w : World} (hm : P.follows .mixedOrders = true) (hS : S w.drew)
    (h : S w.drew → AnyK P .any ops Q s S ops.size (Array.replicate ops.size false) a w.drew) : (Code.region id ops true).wp P Q a w :=
  wp_region_any hm (AnyK.plain _ _ _ _ (h hS))
end
end Go.Proofs.Ytnjfbcoddbeggaa
