/-
  What a unit says of its names, chains, interfaces: pure.
-/
import Derived.Test.YtnjfbcoddbeggaaShape
namespace Go.Proofs.Ytnjfbcoddbeggaa
open Go

/-! ## What the program, and the document, look up in a unit -/
def findAt (s : ByteArray) : List DeclU → Nat → Int
  | [], _ => -1
  | d :: ds, k => if d.name = s then k else findAt s ds (k + 1)
def findU (ds : List DeclU) (s : ByteArray) : Int := findAt s ds 0
def hasU (ds : List DeclU) (d k : Int) : Bool := decide (0 ≤ d) && match ds[d.toNat]? with | some x => decide (x.kind = k) | none => false
def baseU (ds : List DeclU) (d : Int) : ByteArray := match ds[d.toNat]? with | some x => x.base | none => ⟨#[]⟩
def nextU (ds : List DeclU) (d : Int) : Int := if hasU ds (findU ds (baseU ds d)) 2 = true then findU ds (baseU ds d) else -1
def ownFaces (ds : List DeclU) (fs : List ByteArray) : List Int := fs.filterMap fun s => if hasU ds (findU ds s) 1 = true then some (findU ds s) else none
def facesOf (ds : List DeclU) (d : Int) : List Int := match ds[d.toNat]? with | some x => ownFaces ds x.faces | none => []
def chainGo (ds : List DeclU) : Nat → List Int → Int → List Int
  | 0, out, _ => out
  | n + 1, out, d => if (hasU ds d 2 && !out.contains d) = true then chainGo ds n (out ++ [d]) (nextU ds d) else out
def chainU (ds : List DeclU) (d : Int) : List Int := chainGo ds (ds.length + 1) [] d
def addNew (out : List Int) (f : Int) : List Int := if out.contains f = true then out else out ++ [f]
def facesU (ds : List DeclU) (d : Int) : List Int := ((chainU ds d).flatMap (facesOf ds)).foldl addNew []
def isU (ds : List DeclU) (a b : ByteArray) : Bool :=
  (hasU ds (findU ds a) 2 || hasU ds (findU ds a) 1) && (decide (a = b) || (chainU ds (findU ds a)).contains (findU ds b) || (facesU ds (findU ds a)).contains (findU ds b))

theorem findAt_spec (s : ByteArray) : ∀ (ds : List DeclU) (k : Nat), (findAt s ds k = -1 ∧ ∀ (i : Nat) (x : DeclU), ds[i]? = some x → x.name ≠ s) ∨ ∃ (i : Nat) (x : DeclU), findAt s ds k = ((k + i : Nat) : Int) ∧ ds[i]? = some x ∧ x.name = s ∧ ∀ (j : Nat) (y : DeclU), j < i → ds[j]? = some y → y.name ≠ s := by
  intro ds
  induction ds with
  | nil => intro k; exact .inl ⟨rfl, fun i x h => by simp at h⟩
  | cons d ds ih =>
    intro k
    unfold findAt
    by_cases h : d.name = s
    · rw [if_pos h]
      exact .inr ⟨0, d, by simp, rfl, h, fun j y hj => by omega⟩
    · rw [if_neg h]
      rcases ih (k + 1) with ⟨h1, h2⟩ | ⟨i, x, h1, h2, h3, h4⟩
      · refine .inl ⟨h1, fun i x hi => ?_⟩
        cases i with
        | zero => simp at hi; subst hi; exact h
        | succ i => exact h2 i x (by simpa using hi)
      · refine .inr ⟨i + 1, x, by rw [h1]; congr 1; omega, by simpa using h2, h3, fun j y hj hy => ?_⟩
        cases j with
        | zero => simp at hy; subst hy; exact h
        | succ j => exact h4 j y (by omega) (by simpa using hy)
theorem find_spec (ds : List DeclU) (s : ByteArray) : (findU ds s = -1 ∧ ∀ (i : Nat) (x : DeclU), ds[i]? = some x → x.name ≠ s) ∨ ∃ (i : Nat) (x : DeclU), findU ds s = (i : Int) ∧ ds[i]? = some x ∧ x.name = s ∧ ∀ (j : Nat) (y : DeclU), j < i → ds[j]? = some y → y.name ≠ s := by
  rcases findAt_spec s ds 0 with h | ⟨i, x, h1, h⟩
  · exact .inl h
  · exact .inr ⟨i, x, by unfold findU; rw [h1]; congr 1; omega, h⟩
theorem find_none {ds : List DeclU} {s : ByteArray} (h : ∀ (i : Nat) (x : DeclU), ds[i]? = some x → x.name ≠ s) : findU ds s = -1 := by
  rcases find_spec ds s with ⟨h1, _⟩ | ⟨i, x, _, h2, h3, _⟩
  · exact h1
  · exact absurd h3 (h i x h2)
theorem find_at {ds : List DeclU} {s : ByteArray} {i : Nat} {x : DeclU} (hx : ds[i]? = some x) (hs : x.name = s) (h : ∀ (j : Nat) (y : DeclU), j < i → ds[j]? = some y → y.name ≠ s) : findU ds s = (i : Int) := by
  rcases find_spec ds s with ⟨_, h1⟩ | ⟨k, y, h1, h2, h3, h4⟩
  · exact absurd hs (h1 i x hx)
  · rcases Nat.lt_trichotomy i k with hik | rfl | hik
    · exact absurd hs (h4 i x hik hx)
    · exact h1
    · exact absurd h3 (h k y hik h2)
theorem find_self {ds : List DeclU} {s : ByteArray} {i : Nat} {x : DeclU} (h : findU ds s = (i : Int)) (hx : ds[i]? = some x) : x.name = s := by
  rcases find_spec ds s with ⟨h1, _⟩ | ⟨k, y, h1, h2, h3, _⟩
  · omega
  · obtain rfl : i = k := by omega
    rw [hx] at h2
    cases h2
    exact h3
theorem find_lt (ds : List DeclU) (s : ByteArray) : -1 ≤ findU ds s ∧ findU ds s < ds.length := by
  rcases find_spec ds s with ⟨h1, _⟩ | ⟨k, y, h1, h2, _⟩
  · rw [h1]; omega
  · have := (List.getElem?_eq_some_iff.1 h2).1
    rw [h1]; omega
theorem has_spec {ds : List DeclU} {d k : Int} : hasU ds d k = true ↔ ∃ (i : Nat) (x : DeclU), d = (i : Int) ∧ ds[i]? = some x ∧ x.kind = k := by
  unfold hasU
  constructor
  · intro h
    rw [Bool.and_eq_true, decide_eq_true_iff] at h
    obtain ⟨h0, h⟩ := h
    split at h
    · rename_i x hx
      exact ⟨d.toNat, x, by omega, hx, of_decide_eq_true h⟩
    · cases h
  · rintro ⟨i, x, rfl, hx, hk⟩
    simp [hx, hk]
theorem has_neg {ds : List DeclU} {d k : Int} (h : d < 0) : hasU ds d k = false := by unfold hasU; simp; intro h0; omega
theorem has_one {ds : List DeclU} {d k l : Int} (h : hasU ds d k = true) (h' : hasU ds d l = true) : k = l := by
  obtain ⟨i, x, rfl, hx, rfl⟩ := has_spec.1 h
  obtain ⟨j, y, hj, hy, rfl⟩ := has_spec.1 h'
  obtain rfl : i = j := by omega
  rw [hx] at hy
  cases hy
  rfl
/-- what is found by some name is found by its own -/
def Named (ds : List DeclU) (d : Int) : Prop := ∀ (i : Nat) (x : DeclU), d = (i : Int) → ds[i]? = some x → findU ds x.name = d
theorem named_find (ds : List DeclU) (s : ByteArray) : Named ds (findU ds s) := by
  intro i x hi hx
  rw [find_self hi hx]
theorem next_has {ds : List DeclU} {d : Int} {k : Int} (h : hasU ds (nextU ds d) k = true) : nextU ds d = findU ds (baseU ds d) := by
  unfold nextU at h ⊢
  split at h
  · rename_i h1; rw [if_pos h1]
  · rw [has_neg (by omega)] at h; cases h
theorem next_lt (ds : List DeclU) (d : Int) : -1 ≤ nextU ds d ∧ nextU ds d < ds.length := by
  unfold nextU
  split
  · exact find_lt _ _
  · constructor <;> omega
theorem facesOf_mem {ds : List DeclU} {d f : Int} (h : f ∈ facesOf ds d) : hasU ds f 1 = true ∧ Named ds f := by
  unfold facesOf at h
  split at h
  · unfold ownFaces at h
    rw [List.mem_filterMap] at h
    obtain ⟨s, _, hs⟩ := h
    split at hs
    · rename_i h1
      cases hs
      exact ⟨h1, named_find _ _⟩
    · cases hs
  · cases h

/-! ### a list of numbers below n, each once, is no longer than n -/
theorem pigeon : ∀ (n : Nat) (l : List Int), l.Nodup → (∀ x ∈ l, 0 ≤ x ∧ x < n) → l.length ≤ n := by
  intro n
  induction n with
  | zero =>
    intro l _ h
    cases l with
    | nil => simp
    | cons a l => have := h a (by simp); omega
  | succ n ih =>
    intro l hn h
    by_cases hm : (n : Int) ∈ l
    · have h1 := ih (l.erase n) (hn.erase _) (fun x hx => by
        have h2 := (hn.mem_erase_iff).1 hx
        have h3 := h x h2.2
        have := h2.1
        omega)
      rw [List.length_erase_of_mem hm] at h1
      omega
    · have h1 := ih l hn (fun x hx => by
        have h3 := h x hx
        have : x ≠ n := fun e => hm (e ▸ hx)
        omega)
      omega

/-- a chain as far as it has been gone -/
structure Way (ds : List DeclU) (d0 : Int) (out : List Int) (d : Int) : Prop where
  nodup : out.Nodup
  cls : ∀ c ∈ out, hasU ds c 2 = true
  from_ : ∀ c ∈ out, c = d0 ∨ Named ds c
  here : d = d0 ∨ hasU ds d 2 = false ∨ Named ds d
  shut : ∀ c ∈ out, hasU ds (nextU ds c) 2 = true → nextU ds c ∈ out ∨ nextU ds c = d
  start : out = [] → d = d0
  first : ∀ c, out.head? = some c → c = d0
  go : chainGo ds (ds.length + 1 - out.length) out d = chainU ds d0
theorem Way.init (ds : List DeclU) (d0 : Int) : Way ds d0 [] d0 := ⟨List.nodup_nil, by simp, by simp, .inl rfl, by simp, fun _ => rfl, by simp, rfl⟩
theorem has_range {ds : List DeclU} {d k : Int} (h : hasU ds d k = true) : 0 ≤ d ∧ d < ds.length := by
  obtain ⟨i, x, rfl, hx, _⟩ := has_spec.1 h
  have := (List.getElem?_eq_some_iff.1 hx).1
  omega
theorem Way.len {ds : List DeclU} {d0 d : Int} {out : List Int} (h : Way ds d0 out d) : out.length ≤ ds.length := pigeon _ _ h.nodup (fun x hx => has_range (h.cls x hx))
theorem Way.step {ds : List DeclU} {d0 d : Int} {out : List Int} (h : Way ds d0 out d) (h1 : hasU ds d 2 = true) (h2 : out.contains d = false) : Way ds d0 (out ++ [d]) (nextU ds d) := by
  have hl := h.len
  have hm : d ∉ out := by simpa using h2
  refine ⟨?_, ?_, ?_, ?_, ?_, by simp, ?_, ?_⟩
  · rw [List.nodup_append]
    exact ⟨h.nodup, by simp, fun a ha b hb => by simp at hb; subst hb; exact fun e => hm (e ▸ ha)⟩
  · intro c hc
    rcases List.mem_append.1 hc with hc | hc
    · exact h.cls c hc
    · simp at hc; subst hc; exact h1
  · intro c hc
    rcases List.mem_append.1 hc with hc | hc
    · exact h.from_ c hc
    · simp at hc
      subst hc
      rcases h.here with h3 | h3 | h3
      · exact .inl h3
      · rw [h1] at h3; cases h3
      · exact .inr h3
  · right
    by_cases h3 : hasU ds (nextU ds d) 2 = true
    · right; rw [next_has h3]; exact named_find _ _
    · left; simpa using h3
  · intro c hc h3
    rcases List.mem_append.1 hc with hc | hc
    · rcases h.shut c hc h3 with h4 | h4
      · exact .inl (List.mem_append_left _ h4)
      · exact .inl (by rw [h4]; simp)
    · simp at hc; subst hc; exact .inr rfl
  · intro c hc
    cases ho : out with
    | nil => subst ho; simp at hc; subst hc; exact h.start rfl
    | cons a l => subst ho; simp at hc; subst hc; exact h.first _ rfl
  · rw [← h.go, List.length_append, List.length_singleton]
    obtain ⟨m, hm2⟩ : ∃ m, ds.length + 1 - out.length = m + 1 := ⟨ds.length - out.length, by omega⟩
    rw [hm2]
    rw [show ds.length + 1 - (out.length + 1) = m by omega]
    show _ = if (hasU ds d 2 && !out.contains d) = true then chainGo ds m (out ++ [d]) (nextU ds d) else out
    rw [h1, h2]
    rfl
theorem Way.done {ds : List DeclU} {d0 d : Int} {out : List Int} (h : Way ds d0 out d) (h1 : (hasU ds d 2 && !out.contains d) = false) : chainU ds d0 = out := by
  have hl := h.len
  rw [← h.go]
  obtain ⟨m, hm2⟩ : ∃ m, ds.length + 1 - out.length = m + 1 := ⟨ds.length - out.length, by omega⟩
  rw [hm2]
  show (if (hasU ds d 2 && !out.contains d) = true then _ else _) = _
  rw [h1]
  rfl
/-- what holds of a way that is at its end holds of the chain -/
theorem chain_way (ds : List DeclU) (d0 : Int) : ∃ d, Way ds d0 (chainU ds d0) d ∧ (hasU ds d 2 && !(chainU ds d0).contains d) = false := by
  suffices H : ∀ (m : Nat) (out : List Int) (d : Int), m = ds.length + 1 - out.length → Way ds d0 out d → ∃ d, Way ds d0 (chainU ds d0) d ∧ (hasU ds d 2 && !(chainU ds d0).contains d) = false from H _ [] d0 rfl (Way.init ds d0)
  intro m
  induction m with
  | zero => intro out d hm h; have := h.len; omega
  | succ m ih =>
    intro out d hm h
    by_cases h1 : (hasU ds d 2 && !out.contains d) = true
    · rw [Bool.and_eq_true] at h1
      have h2 : out.contains d = false := by simpa using h1.2
      exact ih _ _ (by rw [List.length_append]; simp; omega) (h.step h1.1 h2)
    · have h1 : (hasU ds d 2 && !out.contains d) = false := by simpa using h1
      rw [h.done h1]
      exact ⟨d, h, h1⟩
theorem chain_cls {ds : List DeclU} {d0 c : Int} (h : c ∈ chainU ds d0) : hasU ds c 2 = true := by
  obtain ⟨d, hw, _⟩ := chain_way ds d0
  exact hw.cls c h
theorem chain_named {ds : List DeclU} {d0 c : Int} (h0 : Named ds d0) (h : c ∈ chainU ds d0) : Named ds c := by
  obtain ⟨d, hw, _⟩ := chain_way ds d0
  rcases hw.from_ c h with h1 | h1
  · rw [h1]; exact h0
  · exact h1
theorem chain_shut {ds : List DeclU} {d0 c : Int} (h : c ∈ chainU ds d0) (h1 : hasU ds (nextU ds c) 2 = true) : nextU ds c ∈ chainU ds d0 := by
  obtain ⟨d, hw, hd⟩ := chain_way ds d0
  rcases hw.shut c h h1 with h2 | h2
  · exact h2
  · rw [h2] at h1 ⊢
    rw [h1] at hd
    simpa using hd
theorem chain_nil {ds : List DeclU} {d0 : Int} (h : hasU ds d0 2 = false) : chainU ds d0 = [] := (Way.init ds d0).done (by rw [h]; rfl)
theorem chain_head {ds : List DeclU} {d0 : Int} (h : hasU ds d0 2 = true) : d0 ∈ chainU ds d0 := by
  obtain ⟨d, hw, hd⟩ := chain_way ds d0
  cases hc : chainU ds d0 with
  | nil => rw [hc] at hw hd; rw [hw.start rfl, h] at hd; simp at hd
  | cons a l => rw [hc] at hw; rw [hw.first a rfl]; simp
theorem chain_root {ds : List DeclU} {d0 c : Int} (h : c ∈ chainU ds d0) : hasU ds d0 2 = true := by
  by_cases h0 : hasU ds d0 2 = true
  · exact h0
  · rw [chain_nil (by simpa using h0)] at h; cases h
/-- the chain of what is on a chain lies on it -/
theorem chain_sub {ds : List DeclU} {d0 e : Int} (he : e ∈ chainU ds d0) : ∀ c ∈ chainU ds e, c ∈ chainU ds d0 := by
  suffices H : ∀ (m : Nat) (out : List Int) (d : Int), m = ds.length + 1 - out.length → Way ds e out d → (∀ c ∈ out, c ∈ chainU ds d0) → (hasU ds d 2 = true → d ∈ chainU ds d0) → ∀ c ∈ chainU ds e, c ∈ chainU ds d0 from
    H _ [] e rfl (Way.init ds e) (by simp) (fun _ => he)
  intro m
  induction m with
  | zero => intro out d hm h; have := h.len; omega
  | succ m ih =>
    intro out d hm h ho hd
    by_cases h1 : (hasU ds d 2 && !out.contains d) = true
    · rw [Bool.and_eq_true] at h1
      have h2 : out.contains d = false := by simpa using h1.2
      refine ih _ _ (by rw [List.length_append]; simp; omega) (h.step h1.1 h2) (fun c hc => ?_) (fun hn => chain_shut (hd h1.1) hn)
      rcases List.mem_append.1 hc with hc | hc
      · exact ho c hc
      · simp at hc; subst hc; exact hd h1.1
    · rw [h.done (by simpa using h1)]
      exact ho

theorem addNew_mem {x : Int} : ∀ (l acc : List Int), x ∈ l.foldl addNew acc ↔ x ∈ acc ∨ x ∈ l := by
  intro l
  induction l with
  | nil => intro acc; simp
  | cons a l ih =>
    intro acc
    rw [List.foldl_cons, ih]
    unfold addNew
    split
    · rename_i h
      have h : a ∈ acc := by simpa using h
      constructor
      · rintro (h1 | h1)
        · exact .inl h1
        · exact .inr (List.mem_cons_of_mem _ h1)
      · rintro (h1 | h1)
        · exact .inl h1
        · rcases List.mem_cons.1 h1 with rfl | h1
          · exact .inl h
          · exact .inr h1
    · simp only [List.mem_append, List.mem_cons, List.not_mem_nil, or_false, or_assoc]
theorem faces_mem {ds : List DeclU} {d f : Int} : f ∈ facesU ds d ↔ ∃ c ∈ chainU ds d, f ∈ facesOf ds c := by
  unfold facesU
  rw [addNew_mem]
  simp
/-- what the program asks on its way along the chain -/
def comesU (ds : List DeclU) (d : Int) (o : Int) : Bool := (chainU ds d).any fun c => c == o || (facesOf ds c).contains o
theorem comes_is (ds : List DeclU) (d o : Int) : comesU ds d o = ((chainU ds d).contains o || (facesU ds d).contains o) := by
  rw [Bool.eq_iff_iff]
  unfold comesU
  rw [List.any_eq_true, Bool.or_eq_true, List.contains_iff_mem, List.contains_iff_mem, faces_mem]
  constructor
  · rintro ⟨c, hc, h⟩
    rw [Bool.or_eq_true, beq_iff_eq, List.contains_iff_mem] at h
    rcases h with rfl | h
    · exact .inl hc
    · exact .inr ⟨c, hc, h⟩
  · rintro (h | ⟨c, hc, h⟩)
    · exact ⟨o, h, by simp⟩
    · exact ⟨c, hc, by rw [Bool.or_eq_true, List.contains_iff_mem]; exact .inr h⟩
/-- of what is neither a class nor an interface nothing comes -/
theorem comes_none {ds : List DeclU} {d o : Int} (h : hasU ds o 2 = false) (h' : hasU ds o 1 = false) : comesU ds d o = false := by
  unfold comesU
  rw [List.any_eq_false]
  intro c hc h1
  rw [Bool.or_eq_true, beq_iff_eq, List.contains_iff_mem] at h1
  rcases h1 with rfl | h1
  · rw [chain_cls hc] at h; cases h
  · rw [(facesOf_mem h1).1] at h'; cases h'
theorem is_comes (ds : List DeclU) (a b : ByteArray) : isU ds a b = ((hasU ds (findU ds a) 2 || hasU ds (findU ds a) 1) && (decide (a = b) || comesU ds (findU ds a) (findU ds b))) := by
  unfold isU
  rw [comes_is, Bool.or_assoc]
theorem is_trans {ds : List DeclU} {a b c : ByteArray} (h1 : isU ds a b = true) (h2 : isU ds b c = true) : isU ds a c = true := by
  rw [is_comes, Bool.and_eq_true, Bool.or_eq_true (decide _), decide_eq_true_iff] at h1 h2 ⊢
  obtain ⟨ha, h1⟩ := h1
  refine ⟨ha, ?_⟩
  rcases h1 with rfl | h1
  · exact h2.2
  rcases h2.2 with rfl | h2
  · exact .inr h1
  right
  rw [comes_is, Bool.or_eq_true, List.contains_iff_mem, List.contains_iff_mem, faces_mem] at h1 h2 ⊢
  rcases h1 with h1 | ⟨e, _, h1⟩
  · rcases h2 with h2 | ⟨k, hk, h2⟩
    · exact .inl (chain_sub h1 _ h2)
    · exact .inr ⟨k, chain_sub h1 _ hk, h2⟩
  · exfalso
    have hb := (facesOf_mem h1).1
    have hno : chainU ds (findU ds b) = [] := chain_nil (by
      cases h : hasU ds (findU ds b) 2 with
      | false => rfl
      | true => have := has_one hb h; omega)
    rw [hno] at h2
    rcases h2 with h2 | ⟨k, hk, _⟩
    · cases h2
    · cases hk
theorem is_chain {ds : List DeclU} {a : ByteArray} {c : Int} {x : DeclU} (h : c ∈ chainU ds (findU ds a)) (hx : ds[c.toNat]? = some x) : isU ds a x.name = true := by
  have h0 := chain_root h
  obtain ⟨i, y, rfl, hy, _⟩ := has_spec.1 (chain_cls h)
  have hn : findU ds x.name = (i : Int) := chain_named (named_find ds a) h i x rfl (by simpa using hx)
  unfold isU
  rw [h0, hn]
  simp [h]
theorem is_faces {ds : List DeclU} {a : ByteArray} {f : Int} {x : DeclU} (h : f ∈ facesU ds (findU ds a)) (hx : ds[f.toNat]? = some x) : isU ds a x.name = true := by
  obtain ⟨c, hc, h1⟩ := faces_mem.1 h
  have h0 := chain_root hc
  obtain ⟨i, y, rfl, hy, _⟩ := has_spec.1 (facesOf_mem h1).1
  have hn : findU ds x.name = (i : Int) := (facesOf_mem h1).2 i x rfl (by simpa using hx)
  unfold isU
  rw [h0, hn]
  simp [h]
theorem is_self (ds : List DeclU) (a : ByteArray) : isU ds a a = (hasU ds (findU ds a) 2 || hasU ds (findU ds a) 1) := by
  unfold isU
  simp
theorem str_eq (a b : ByteArray) : (a.toList == b.toList) = decide (a = b) := by
  rw [Bool.eq_iff_iff, beq_iff_eq, decide_eq_true_iff, ByteArray.toList_eq, ByteArray.toList_eq]
  constructor
  · intro h
    cases a; cases b
    simp at h
    rw [h]
  · rintro rfl; rfl

end Go.Proofs.Ytnjfbcoddbeggaa
