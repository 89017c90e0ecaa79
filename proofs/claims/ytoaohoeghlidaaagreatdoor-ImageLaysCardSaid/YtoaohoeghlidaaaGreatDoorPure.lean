/-
  Images in bytes, pure: what a writer makes of each part, what a reader makes of it again.
-/
import Derived.RowKit
import Derived.Below
import Derived.Lib.SmallJoins
import Derived.Deep.Slices
import Derived.Deep.Fields
import Derived.ChangeSame
import Derived.Carry
import Derived.Lib.AppendStr
namespace Go.Proofs.YtoaohoeghlidaaaGreatDoor

/-- a writer: its bytes; whether something has no room -/
structure Wst where
  bs : List UInt8
  full : Bool
/-- a reader: its place; whether the bytes are no image's -/
structure Rst where
  at_ : Nat
  wrong : Bool
deriving DecidableEq

def be (n : Int) : List UInt8 :=
  let u := (n % 4294967296).toNat
  [UInt8.ofNat (u / 16777216), UInt8.ofNat (u / 65536), UInt8.ofNat (u / 256), UInt8.ofNat u]
def un (a b c d : UInt8) : Int :=
  let u : Int := a.toNat * 16777216 + b.toNat * 65536 + c.toNat * 256 + d.toNat
  if u < 2147483648 then u else u - 4294967296
def un4 (l : List UInt8) : Int := un (l.getD 0 0) (l.getD 1 0) (l.getD 2 0) (l.getD 3 0)

theorem be_len (n : Int) : (be n).length = 4 := rfl
theorem un_be {n : Int} (h : -2147483648 ≤ n) (h' : n ≤ 2147483647) : un4 (be n) = n := by
  have h1 : un4 (be n) = un (UInt8.ofNat ((n % 4294967296).toNat / 16777216)) (UInt8.ofNat ((n % 4294967296).toNat / 65536)) (UInt8.ofNat ((n % 4294967296).toNat / 256)) (UInt8.ofNat (n % 4294967296).toNat) := rfl
  rw [h1]
  unfold un
  simp only [UInt8.toNat_ofNat']
  split <;> omega
theorem un_bd (a b c d : UInt8) : -2147483648 ≤ un a b c d ∧ un a b c d ≤ 2147483647 := by
  have := a.toNat_lt; have := b.toNat_lt; have := c.toNat_lt; have := d.toNat_lt
  unfold un
  simp only
  split <;> omega
theorem be_un (a b c d : UInt8) : be (un a b c d) = [a, b, c, d] := by
  have ha := a.toNat_lt; have hb := b.toNat_lt; have hc := c.toNat_lt; have hd := d.toNat_lt
  have hu : (un a b c d % 4294967296).toNat = a.toNat * 16777216 + b.toNat * 65536 + c.toNat * 256 + d.toNat := by
    unfold un; simp only; split <;> omega
  unfold be
  rw [hu]
  simp only [List.cons.injEq, and_true]
  refine ⟨?_, ?_, ?_, ?_⟩ <;> apply UInt8.toNat_inj.1 <;> rw [UInt8.toNat_ofNat'] <;> omega

/-! ## what the program does -/
def wNum (n : Int) (s : Wst) : Wst := if n < -2147483648 ∨ 2147483647 < n then ⟨s.bs, true⟩ else ⟨s.bs ++ be n, s.full⟩
def wText (t : ByteArray) (s : Wst) : Wst := if 10000 < t.size then ⟨s.bs, true⟩ else ⟨s.bs ++ be t.size ++ t.data.toList, s.full⟩
def wFlag (b : Bool) (s : Wst) : Wst := wNum (if b then 1 else 0) s
def wGo {T : Type} (one : T → Wst → Wst) : List T → Wst → Wst
  | [], s => s
  | x :: xs, s => if s.full then s else wGo one xs (one x s)
def wList {T : Type} (one : T → Wst → Wst) (l : List T) (s : Wst) : Wst := if 10000 < l.length then ⟨s.bs, true⟩ else wGo one l ⟨s.bs ++ be l.length, s.full⟩

def rNum (B : List UInt8) (s : Rst) : Int × Rst :=
  if s.wrong ∨ B.length < s.at_ + 4 then (0, ⟨s.at_, true⟩) else (un4 (B.drop s.at_), ⟨s.at_ + 4, false⟩)
def rCount (B : List UInt8) (k : Nat) (s : Rst) : Nat × Rst :=
  let r := rNum B s
  if r.1 < 0 ∨ 10000 < r.1 ∨ (((B.length - r.2.at_) / k : Nat) : Int) < r.1 then (0, ⟨r.2.at_, true⟩) else (r.1.toNat, r.2)
def rText (B : List UInt8) (s : Rst) : ByteArray × Rst :=
  let r := rCount B 1 s
  (⟨((B.drop r.2.at_).take r.1).toArray⟩, ⟨r.2.at_ + r.1, r.2.wrong⟩)
def rFlag (B : List UInt8) (s : Rst) : Bool × Rst :=
  let r := rNum B s
  (r.1 == 1, ⟨r.2.at_, if r.1 ≠ 0 ∧ r.1 ≠ 1 then true else r.2.wrong⟩)
def rGo {T : Type} (one : Rst → T × Rst) : Nat → List T → Rst → List T × Rst
  | 0, acc, s => (acc, s)
  | n + 1, acc, s => if s.wrong then ([], s) else rGo one n (acc ++ [(one s).1]) (one s).2
def rMany {T : Type} (B : List UInt8) (one : Rst → T × Rst) (s : Rst) : List T × Rst :=
  let r := rCount B 4 s
  rGo one r.1 [] r.2

/-! ## codecs -/
structure Codec (T : Type) where
  w : T → Wst → Wst
  r : List UInt8 → Rst → T × Rst
  e : T → Option (List UInt8)
  /-- what is laid -/
  lay : ∀ x l bs, e x = some l → w x ⟨bs, false⟩ = ⟨bs ++ l, false⟩
  no : ∀ x bs, e x = none → (w x ⟨bs, false⟩).full = true
  stay : ∀ x s, s.full = true → (w x s).full = true
  /-- read again -/
  back : ∀ pre x l post, e x = some l → r (pre ++ l ++ post) ⟨pre.length, false⟩ = (x, ⟨(pre ++ l).length, false⟩)
  /-- what is read -/
  read : ∀ B s, s.at_ ≤ B.length → (r B s).2.wrong = false → s.wrong = false ∧ ∃ l, e (r B s).1 = some l ∧ (r B s).2.at_ = s.at_ + l.length ∧ B = B.take s.at_ ++ l ++ B.drop (s.at_ + l.length) ∧ s.at_ + l.length ≤ B.length
  inside : ∀ B s, s.at_ ≤ B.length → (r B s).2.at_ ≤ B.length
  least : ∀ x l, e x = some l → 4 ≤ l.length

theorem drop_at {B l : List UInt8} {k : Nat} (h : B = B.take k ++ l ++ B.drop (k + l.length)) (hk : k + l.length ≤ B.length) : B.drop k = l ++ B.drop (k + l.length) := by
  have hlen : (B.take k).length = k := by simp; omega
  calc B.drop k = (B.take k ++ l ++ B.drop (k + l.length)).drop k := by rw [← h]
    _ = _ := by rw [List.append_assoc, List.drop_append_of_le_length (by omega), List.drop_of_length_le (by omega)]; rfl
theorem at_drop {B l r : List UInt8} {k : Nat} (h : B.drop k = l ++ r) (hk : k ≤ B.length) : B = B.take k ++ l ++ B.drop (k + l.length) ∧ k + l.length ≤ B.length := by
  have h1 : B.drop (k + l.length) = r := by rw [← List.drop_drop, h, List.drop_left]
  refine ⟨?_, ?_⟩
  · rw [h1, List.append_assoc, ← h, List.take_append_drop]
  · have := congrArg List.length h
    simp at this
    omega
theorem four {B : List UInt8} {k : Nat} (h : k + 4 ≤ B.length) : ∃ a b c d, B.drop k = [a, b, c, d] ++ B.drop (k + 4) := by
  refine ⟨B[k], B[k+1], B[k+2], B[k+3], ?_⟩
  rw [List.drop_eq_getElem_cons (by omega), List.drop_eq_getElem_cons (by omega), List.drop_eq_getElem_cons (by omega), List.drop_eq_getElem_cons (by omega)]
  rfl

def eNum (n : Int) : Option (List UInt8) := if n < -2147483648 ∨ 2147483647 < n then none else some (be n)
theorem rNum_back (pre : List UInt8) (n : Int) (post : List UInt8) (h : -2147483648 ≤ n) (h' : n ≤ 2147483647) : rNum (pre ++ be n ++ post) ⟨pre.length, false⟩ = (n, ⟨(pre ++ be n).length, false⟩) := by
  unfold rNum
  rw [if_neg (by simp [be_len])]
  have : (pre ++ be n ++ post).drop pre.length = be n ++ post := by rw [List.append_assoc, List.drop_left]
  simp only [this]
  have h4 : un4 (be n ++ post) = un4 (be n) := rfl
  rw [h4, un_be h h']
  simp [be_len]
theorem rNum_read (B : List UInt8) (s : Rst) (h : (rNum B s).2.wrong = false) : s.wrong = false ∧ (rNum B s).2 = ⟨s.at_ + 4, false⟩ ∧ -2147483648 ≤ (rNum B s).1 ∧ (rNum B s).1 ≤ 2147483647 ∧ B.drop s.at_ = be (rNum B s).1 ++ B.drop (s.at_ + 4) ∧ s.at_ + 4 ≤ B.length := by
  unfold rNum at h ⊢
  split at h
  · cases h
  · rename_i hc
    rw [if_neg hc]
    rw [not_or] at hc
    obtain ⟨a, b, c, d, e⟩ := four (B := B) (k := s.at_) (by omega)
    have hu : un4 (B.drop s.at_) = un a b c d := by rw [e]; rfl
    simp only [hu]
    refine ⟨by simpa using hc.1, by simp, (un_bd a b c d).1, (un_bd a b c d).2, ?_, by omega⟩
    rw [be_un]; exact e
theorem rNum_inside (B : List UInt8) (s : Rst) (hs : s.at_ ≤ B.length) : (rNum B s).2.at_ ≤ B.length := by
  unfold rNum
  split
  · exact hs
  · rename_i hc; rw [not_or] at hc; simp only; omega
def cNum : Codec Int where
  w := wNum
  r := rNum
  e := eNum
  lay x l bs h := by
    unfold eNum at h
    unfold wNum
    split at h
    · cases h
    · rename_i hc
      rw [if_neg hc, ← Option.some.inj h]
  no x bs h := by
    unfold eNum at h
    unfold wNum
    split at h
    · rename_i hc
      rw [if_pos hc]
    · cases h
  stay x s h := by unfold wNum; split <;> first | rfl | exact h
  back pre x l post h := by
    unfold eNum at h
    split at h
    · cases h
    · rename_i hc
      rw [not_or] at hc
      obtain rfl := Option.some.inj h
      exact rNum_back pre x post (by omega) (by omega)
  read B s hs h := by
    obtain ⟨h0, h1, h2, h3, h4, h5⟩ := rNum_read B s h
    refine ⟨h0, be (rNum B s).1, ?_, by rw [h1]; rfl, ?_⟩
    · unfold eNum
      rw [if_neg (by omega)]
    · exact at_drop h4 hs
  inside := rNum_inside
  least x l h := by
    unfold eNum at h
    split at h
    · cases h
    · obtain rfl := Option.some.inj h; rw [be_len]; omega

theorem rCount_back (pre : List UInt8) (n k : Nat) (post : List UInt8) (h : n ≤ 10000) (hk : n ≤ post.length / k) : rCount (pre ++ be n ++ post) k ⟨pre.length, false⟩ = (n, ⟨(pre ++ be n).length, false⟩) := by
  unfold rCount
  rw [rNum_back pre n post (by omega) (by omega)]
  simp only
  rw [if_neg]
  · simp
  · have : (pre ++ be ↑n ++ post).length - (pre ++ be ↑n).length = post.length := by simp; omega
    rw [this]
    omega
theorem rCount_read (B : List UInt8) (k : Nat) (s : Rst) (h : (rCount B k s).2.wrong = false) : s.wrong = false ∧ (rCount B k s).2 = ⟨s.at_ + 4, false⟩ ∧ (rCount B k s).1 ≤ 10000 ∧ (rCount B k s).1 ≤ (B.length - (s.at_ + 4)) / k ∧ B.drop s.at_ = be (rCount B k s).1 ++ B.drop (s.at_ + 4) ∧ s.at_ + 4 ≤ B.length := by
  unfold rCount at h ⊢
  simp only at h ⊢
  split at h
  · cases h
  · rename_i hc
    rw [if_neg hc]
    simp only at h ⊢
    obtain ⟨h0, h1, h2, h3, h4, h5⟩ := rNum_read B s h
    rw [h1] at hc
    simp only at hc
    rw [not_or, not_or] at hc
    refine ⟨h0, h1, by omega, by omega, ?_, h5⟩
    rw [Int.toNat_of_nonneg (by omega)]
    exact h4
theorem rCount_inside (B : List UInt8) (k : Nat) (s : Rst) (hs : s.at_ ≤ B.length) : (rCount B k s).2.at_ ≤ B.length := by
  unfold rCount
  simp only
  split <;> exact rNum_inside B s hs
theorem rCount_fit (B : List UInt8) (k : Nat) (s : Rst) (hs : s.at_ ≤ B.length) : (rCount B k s).2.at_ + k * (rCount B k s).1 ≤ B.length := by
  have h := rNum_inside B s hs
  unfold rCount
  simp only
  split
  · simpa using h
  · rename_i hc
    rw [not_or, not_or] at hc
    simp only
    have h1 : (rNum B s).1.toNat ≤ (B.length - (rNum B s).2.at_) / k := by omega
    have h2 := Nat.mul_le_mul_left k h1
    have h3 := Nat.mul_div_le (B.length - (rNum B s).2.at_) k
    omega
theorem rCount_zero (B : List UInt8) (k : Nat) (s : Rst) (h : (rCount B k s).2.wrong = true) : (rCount B k s).1 = 0 := by
  unfold rCount at h ⊢
  by_cases hc : (rNum B s).1 < 0 ∨ 10000 < (rNum B s).1 ∨ (((B.length - (rNum B s).2.at_) / k : Nat) : Int) < (rNum B s).1
  · simp only [hc, if_true]
  · simp only [hc, if_false] at h ⊢
    unfold rNum at h ⊢
    split at h
    · rename_i h2; simp only [h2, if_true]; rfl
    · cases h
theorem rCount_le (B : List UInt8) (k : Nat) (s : Rst) : (rCount B k s).1 ≤ 10000 := by
  unfold rCount
  simp only
  split <;> simp only <;> omega

def eText (t : ByteArray) : Option (List UInt8) := if 10000 < t.size then none else some (be t.size ++ t.data.toList)
theorem mk_toList (t : ByteArray) : (⟨t.data.toList.toArray⟩ : ByteArray) = t := by cases t; rfl
def cText : Codec ByteArray where
  w := wText
  r := rText
  e := eText
  lay x l bs h := by
    unfold eText at h
    unfold wText
    split at h
    · cases h
    · rename_i hc
      rw [if_neg hc, ← Option.some.inj h, List.append_assoc]
  no x bs h := by
    unfold eText at h
    unfold wText
    split at h
    · rename_i hc
      rw [if_pos hc]
    · cases h
  stay x s h := by unfold wText; split <;> first | rfl | exact h
  back pre x l post h := by
    unfold eText at h
    split at h
    · cases h
    · rename_i hc
      obtain rfl := Option.some.inj h
      have hd : x.data.toList.length = x.size := rfl
      unfold rText
      rw [show pre ++ (be x.size ++ x.data.toList) ++ post = pre ++ be x.size ++ (x.data.toList ++ post) by simp [List.append_assoc]]
      rw [rCount_back pre x.size 1 _ (by omega) (by rw [Nat.div_one, List.length_append, hd]; omega)]
      simp only
      rw [List.drop_left, ← hd, List.take_left, mk_toList]
      simp [be_len, Nat.add_assoc]
  read B s hs h := by
    have hr : (rText B s).2.wrong = (rCount B 1 s).2.wrong := rfl
    rw [hr] at h
    obtain ⟨h0, h1, h2, h3, h4, h5⟩ := rCount_read B 1 s h
    have hlen : ((B.drop (s.at_ + 4)).take (rCount B 1 s).1).length = (rCount B 1 s).1 := by
      simp only [List.length_take, List.length_drop]
      rw [Nat.div_one] at h3; omega
    have hv : (rText B s).1 = ⟨((B.drop (s.at_ + 4)).take (rCount B 1 s).1).toArray⟩ := by show (⟨((B.drop (rCount B 1 s).2.at_).take (rCount B 1 s).1).toArray⟩ : ByteArray) = _; rw [h1]
    have hsz : (rText B s).1.size = (rCount B 1 s).1 := by rw [hv]; show (List.toArray _).size = _; simpa using hlen
    refine ⟨h0, be (rCount B 1 s).1 ++ (B.drop (s.at_ + 4)).take (rCount B 1 s).1, ?_, ?_, ?_⟩
    · unfold eText
      rw [if_neg (by omega), hsz, hv]
    · show (rCount B 1 s).2.at_ + (rCount B 1 s).1 = _
      rw [h1, List.length_append, be_len, hlen]; simp only; omega
    · exact at_drop (by rw [h4, List.append_assoc, List.take_append_drop]) hs
  inside B s hs := by
    have := rCount_fit B 1 s hs
    show (rCount B 1 s).2.at_ + (rCount B 1 s).1 ≤ _
    omega
  least x l h := by
    unfold eText at h
    split at h
    · cases h
    · obtain rfl := Option.some.inj h; rw [List.length_append, be_len]; omega

def cFlag : Codec Bool where
  w := wFlag
  r := rFlag
  e b := some (be (if b then 1 else 0))
  lay x l bs h := by
    rw [← Option.some.inj h]
    unfold wFlag wNum
    cases x <;> rw [if_neg (by decide)]
  no x bs h := by cases h
  stay x s h := by unfold wFlag wNum; split <;> first | rfl | exact h
  back pre x l post h := by
    obtain rfl := Option.some.inj h
    unfold rFlag
    cases x <;> simp only [if_true, Bool.false_eq_true, if_false] <;> rw [rNum_back pre _ post (by decide) (by decide)] <;> rfl
  read B s hs h := by
    unfold rFlag at h ⊢
    simp only at h ⊢
    split at h
    · cases h
    · rename_i hc
      obtain ⟨h0, h1, h2, h3, h4, h5⟩ := rNum_read B s h
      have hn : (rNum B s).1 = 0 ∨ (rNum B s).1 = 1 := by omega
      have he : be (if ((rNum B s).1 == 1) = true then 1 else 0) = be (rNum B s).1 := by rcases hn with h | h <;> rw [h] <;> rfl
      refine ⟨h0, _, rfl, ?_, ?_⟩
      · rw [h1, be_len]
      · rw [he]; exact at_drop h4 hs
  inside B s hs := rNum_inside B s hs
  least x l h := by obtain rfl := Option.some.inj h; rw [be_len]; omega

/-- one behind the other -/
def cPair {A C : Type} (a : Codec A) (c : Codec C) : Codec (A × C) where
  w x s := c.w x.2 (a.w x.1 s)
  r B s := let p := a.r B s; let q := c.r B p.2; ((p.1, q.1), q.2)
  e x := match a.e x.1, c.e x.2 with | some l, some m => some (l ++ m) | _, _ => none
  lay x l bs h := by
    cases h1 : a.e x.1 with
    | none => simp [h1] at h
    | some l1 =>
      cases h2 : c.e x.2 with
      | none => simp [h1, h2] at h
      | some l2 =>
        simp only [h1, h2, Option.some.injEq] at h
        rw [a.lay _ _ _ h1, c.lay _ _ _ h2, ← h, List.append_assoc]
  no x bs h := by
    cases h1 : a.e x.1 with
    | none => exact c.stay _ _ (a.no _ _ h1)
    | some l1 =>
      rw [a.lay _ _ _ h1]
      cases h2 : c.e x.2 with
      | none => exact c.no _ _ h2
      | some l2 => simp [h1, h2] at h
  stay x s h := c.stay _ _ (a.stay _ _ h)
  back pre x l post h := by
    cases h1 : a.e x.1 with
    | none => simp [h1] at h
    | some l1 =>
      cases h2 : c.e x.2 with
      | none => simp [h1, h2] at h
      | some l2 =>
        simp only [h1, h2, Option.some.injEq] at h
        subst h
        have e1 : pre ++ (l1 ++ l2) ++ post = pre ++ l1 ++ (l2 ++ post) := by simp [List.append_assoc]
        have e2 : pre ++ l1 ++ (l2 ++ post) = (pre ++ l1) ++ l2 ++ post := by simp [List.append_assoc]
        rw [e1]
        simp only
        rw [a.back pre _ l1 _ h1]
        simp only
        rw [e2, c.back (pre ++ l1) _ l2 post h2]
        simp [List.append_assoc]
  read B s hs h := by
    simp only at h ⊢
    have hi := a.inside B s hs
    obtain ⟨g0, l2, g1, g2, g3, g4⟩ := c.read B (a.r B s).2 hi h
    obtain ⟨f0, l1, f1, f2, f3, f4⟩ := a.read B s hs g0
    rw [f1, g1]
    refine ⟨f0, l1 ++ l2, rfl, by rw [g2, f2, List.length_append]; omega, ?_⟩
    rw [f2] at g3 g4
    have d1 := drop_at f3 f4
    have d2 := drop_at g3 g4
    exact at_drop (by rw [d1, d2, List.append_assoc]) hs
  inside B s hs := c.inside B _ (a.inside B s hs)
  least x l h := by
    cases h1 : a.e x.1 with
    | none => simp [h1] at h
    | some l1 =>
      cases h2 : c.e x.2 with
      | none => simp [h1, h2] at h
      | some l2 =>
        simp only [h1, h2, Option.some.injEq] at h
        have := a.least _ _ h1
        rw [← h, List.length_append]; omega
/-- told otherwise -/
def cIso {A C : Type} (a : Codec A) (f : A → C) (g : C → A) (h : ∀ x, f (g x) = x) (h' : ∀ x, g (f x) = x) : Codec C where
  w x := a.w (g x)
  r B s := let p := a.r B s; (f p.1, p.2)
  e x := a.e (g x)
  lay x := a.lay (g x)
  no x := a.no (g x)
  stay x := a.stay (g x)
  back pre x l post he := by simp only; rw [a.back pre (g x) l post he, h]
  read B s hs hw := by simp only [h']; exact a.read B s hs hw
  inside := a.inside
  least x := a.least (g x)

def eGo {T : Type} (e : T → Option (List UInt8)) : List T → Option (List UInt8)
  | [] => some []
  | x :: xs => match e x, eGo e xs with | some l, some m => some (l ++ m) | _, _ => none
theorem eGo_least {T : Type} (c : Codec T) : ∀ (xs : List T) l, eGo c.e xs = some l → 4 * xs.length ≤ l.length
  | [], l, h => by simp
  | x :: xs, l, h => by
    unfold eGo at h
    cases h1 : c.e x with
    | none => simp [h1] at h
    | some l1 =>
      cases h2 : eGo c.e xs with
      | none => simp [h1, h2] at h
      | some l2 =>
        simp only [h1, h2, Option.some.injEq] at h
        have h3 := c.least _ _ h1
        have h4 := eGo_least c xs l2 h2
        rw [← h, List.length_append, List.length_cons]; omega
theorem wGo_full {T : Type} (one : T → Wst → Wst) (xs : List T) (s : Wst) (h : s.full = true) : wGo one xs s = s := by
  cases xs with
  | nil => rfl
  | cons x xs => unfold wGo; rw [if_pos h]
theorem wGo_lay {T : Type} (c : Codec T) : ∀ (xs : List T) l bs, eGo c.e xs = some l → wGo c.w xs ⟨bs, false⟩ = ⟨bs ++ l, false⟩
  | [], l, bs, h => by unfold eGo at h; rw [← Option.some.inj h]; simp [wGo]
  | x :: xs, l, bs, h => by
    unfold eGo at h
    cases h1 : c.e x with
    | none => simp [h1] at h
    | some l1 =>
      cases h2 : eGo c.e xs with
      | none => simp [h1, h2] at h
      | some l2 =>
        simp only [h1, h2, Option.some.injEq] at h
        unfold wGo
        rw [if_neg (by simp), c.lay _ _ _ h1]
        rw [wGo_lay c xs l2 _ h2, ← h, List.append_assoc]
theorem wGo_no {T : Type} (c : Codec T) : ∀ (xs : List T) bs, eGo c.e xs = none → (wGo c.w xs ⟨bs, false⟩).full = true
  | [], bs, h => by unfold eGo at h; cases h
  | x :: xs, bs, h => by
    unfold eGo at h
    unfold wGo
    rw [if_neg (by simp)]
    cases h1 : c.e x with
    | none =>
      have := c.no x bs h1
      rw [wGo_full _ _ _ this]; exact this
    | some l1 =>
      rw [c.lay _ _ _ h1]
      cases h2 : eGo c.e xs with
      | none => exact wGo_no c xs _ h2
      | some l2 => simp [h1, h2] at h
theorem rGo_back {T : Type} (c : Codec T) : ∀ (xs : List T) (l pre post : List UInt8) (acc : List T), eGo c.e xs = some l → rGo (c.r (pre ++ l ++ post)) xs.length acc ⟨pre.length, false⟩ = (acc ++ xs, ⟨(pre ++ l).length, false⟩)
  | [], l, pre, post, acc, h => by unfold eGo at h; rw [← Option.some.inj h]; simp [rGo]
  | x :: xs, l, pre, post, acc, h => by
    unfold eGo at h
    cases h1 : c.e x with
    | none => simp [h1] at h
    | some l1 =>
      cases h2 : eGo c.e xs with
      | none => simp [h1, h2] at h
      | some l2 =>
        simp only [h1, h2, Option.some.injEq] at h
        subst h
        have e1 : pre ++ (l1 ++ l2) ++ post = pre ++ l1 ++ (l2 ++ post) := by simp [List.append_assoc]
        have e2 : pre ++ l1 ++ (l2 ++ post) = (pre ++ l1) ++ l2 ++ post := by simp [List.append_assoc]
        rw [e1, List.length_cons]
        unfold rGo
        rw [if_neg (by simp), c.back pre x l1 _ h1]
        simp only
        rw [e2, rGo_back c xs l2 (pre ++ l1) post _ h2]
        simp [List.append_assoc]
theorem rGo_inside {T : Type} (c : Codec T) (B : List UInt8) : ∀ (n : Nat) (acc : List T) (s : Rst), s.at_ ≤ B.length → (rGo (c.r B) n acc s).2.at_ ≤ B.length
  | 0, _, _, h => h
  | n + 1, acc, s, h => by
    unfold rGo
    split
    · exact h
    · exact rGo_inside c B n _ _ (c.inside B s h)
theorem rGo_wrong {T : Type} (c : Codec T) (B : List UInt8) : ∀ (n : Nat) (acc : List T) (s : Rst), s.wrong = true → (rGo (c.r B) n acc s).2.wrong = true
  | 0, _, _, h => h
  | n + 1, acc, s, h => by unfold rGo; rw [if_pos h]; exact h
theorem rGo_read {T : Type} (c : Codec T) (B : List UInt8) : ∀ (n : Nat) (acc : List T) (s : Rst), s.at_ ≤ B.length → (rGo (c.r B) n acc s).2.wrong = false →
    s.wrong = false ∧ ∃ xs l, (rGo (c.r B) n acc s).1 = acc ++ xs ∧ xs.length = n ∧ eGo c.e xs = some l ∧ (rGo (c.r B) n acc s).2.at_ = s.at_ + l.length ∧ B.drop s.at_ = l ++ B.drop (s.at_ + l.length)
  | 0, acc, s, hs, h => ⟨h, [], [], by simp [rGo], rfl, rfl, by simp [rGo], by simp⟩
  | n + 1, acc, s, hs, h => by
    have hsw : s.wrong = false := by
      cases hw : s.wrong with
      | false => rfl
      | true => rw [rGo_wrong c B (n + 1) acc s hw] at h; cases h
    unfold rGo at h ⊢
    rw [if_neg (by simp [hsw])] at h ⊢
    obtain ⟨g0, xs, l, g1, g2, g3, g4, g5⟩ := rGo_read c B n _ _ (c.inside B s hs) h
    obtain ⟨_, l1, f1, f2, f3, f4⟩ := c.read B s hs g0
    refine ⟨hsw, (c.r B s).1 :: xs, l1 ++ l, ?_, by simp [g2], ?_, ?_, ?_⟩
    · rw [g1]; simp
    · unfold eGo; rw [f1, g3]
    · rw [g4, f2, List.length_append]; omega
    · rw [drop_at f3 f4, ← f2, g5, List.append_assoc, f2, List.length_append, Nat.add_assoc]

def eList {T : Type} (e : T → Option (List UInt8)) (l : List T) : Option (List UInt8) := if 10000 < l.length then none else (eGo e l).map (be l.length ++ ·)
theorem rMany_wrong {T : Type} (B : List UInt8) (c : Codec T) (s : Rst) (h : (rMany B (c.r B) s).2.wrong = false) : (rCount B 4 s).2.wrong = false := by
  cases hw : (rCount B 4 s).2.wrong with
  | false => rfl
  | true =>
    have := rGo_wrong c B (rCount B 4 s).1 [] _ hw
    unfold rMany at h
    simp only at h
    rw [this] at h
    cases h
def cList {T : Type} (c : Codec T) : Codec (List T) where
  w := wList c.w
  r B := rMany B (c.r B)
  e := eList c.e
  lay xs l bs h := by
    unfold eList at h
    unfold wList
    split at h
    · cases h
    · rename_i hc
      rw [if_neg hc]
      obtain ⟨m, hm, rfl⟩ := Option.map_eq_some_iff.1 h
      rw [wGo_lay c xs m _ hm, List.append_assoc]
  no xs bs h := by
    unfold eList at h
    unfold wList
    split at h
    · rename_i hc
      rw [if_pos hc]
    · rename_i hc
      rw [if_neg hc]
      exact wGo_no c xs _ (Option.map_eq_none_iff.1 h)
  stay xs s h := by
    unfold wList
    split
    · rfl
    · rw [wGo_full c.w xs ⟨s.bs ++ be xs.length, s.full⟩ h]; exact h
  back pre xs l post h := by
    unfold eList at h
    split at h
    · cases h
    · rename_i hc
      obtain ⟨m, hm, rfl⟩ := Option.map_eq_some_iff.1 h
      have hl := eGo_least c xs m hm
      have e1 : pre ++ (be xs.length ++ m) ++ post = pre ++ be xs.length ++ (m ++ post) := by simp [List.append_assoc]
      have e2 : pre ++ be xs.length ++ (m ++ post) = (pre ++ be xs.length) ++ m ++ post := by simp [List.append_assoc]
      unfold rMany
      rw [e1, rCount_back pre xs.length 4 _ (by omega) (by rw [List.length_append]; omega)]
      simp only
      rw [e2, rGo_back c xs m (pre ++ be xs.length) post [] hm]
      simp [List.append_assoc]
  read B s hs h := by
    obtain ⟨h0, h1, h2, h3, h4, h5⟩ := rCount_read B 4 s (rMany_wrong B c s h)
    have hi := rCount_inside B 4 s hs
    obtain ⟨g0, xs, l, g1, g2, g3, g4, g5⟩ := rGo_read c B (rCount B 4 s).1 [] _ hi h
    rw [h1] at g4 g5
    simp only at g4 g5
    rw [show (rMany B (c.r B) s).1 = xs from g1]
    refine ⟨h0, be (rCount B 4 s).1 ++ l, ?_, ?_, ?_⟩
    · unfold eList
      rw [if_neg (by omega), g3, g2]
      rfl
    · show (rGo (c.r B) (rCount B 4 s).1 [] (rCount B 4 s).2).2.at_ = _
      rw [h1, g4, List.length_append, be_len]; omega
    · exact at_drop (by rw [h4, g5, List.append_assoc]) hs
  inside B s hs := rGo_inside c B _ _ _ (rCount_inside B 4 s hs)
  least xs l h := by
    unfold eList at h
    split at h
    · cases h
    · obtain ⟨m, _, rfl⟩ := Option.map_eq_some_iff.1 h
      rw [List.length_append, be_len]; omega

/-! ## images -/
structure TableD where
  face : Int
  slots : List Int
structure DescD where
  base : Int
  fields : ByteArray
  init : List Int
  vtable : List Int
  sigs : List ByteArray
  tables : List TableD
structure OpD where
  k : Int
  a : Int
  b : Int
structure CodeD where
  cls : Int
  params : ByteArray
  locals : ByteArray
  ret : Bool
  stack : Int
  ops : List OpD
structure LinkD where
  g : Int
  s : Int
  b : Bool
structure JobD where
  c : Int
  e : Int
  f : Int
structure ImgD where
  faces : List (List ByteArray)
  classes : List DescD
  codes : List CodeD
  insts : List Int
  globals : ByteArray
  init : List Int
  blocks : List Int
  ins : List LinkD
  outs : List LinkD
  jobs : List JobD
  d : Int
  w : Int

def cNums : Codec (List Int) := cList cNum
def cTexts : Codec (List ByteArray) := cList cText
def cTable : Codec TableD := cIso (cPair cNum cNums) (fun x => ⟨x.1, x.2⟩) (fun x => (x.face, x.slots)) (fun _ => rfl) (fun _ => rfl)
def cOp : Codec OpD := cIso (cPair (cPair cNum cNum) cNum) (fun x => ⟨x.1.1, x.1.2, x.2⟩) (fun x => ((x.k, x.a), x.b)) (fun _ => rfl) (fun _ => rfl)
def cLink : Codec LinkD := cIso (cPair (cPair cNum cNum) cFlag) (fun x => ⟨x.1.1, x.1.2, x.2⟩) (fun x => ((x.g, x.s), x.b)) (fun _ => rfl) (fun _ => rfl)
def cJob : Codec JobD := cIso (cPair (cPair cNum cNum) cNum) (fun x => ⟨x.1.1, x.1.2, x.2⟩) (fun x => ((x.c, x.e), x.f)) (fun _ => rfl) (fun _ => rfl)
def cDesc : Codec DescD := cIso (cPair (cPair (cPair (cPair (cPair cNum cText) cNums) cNums) cTexts) (cList cTable))
  (fun x => ⟨x.1.1.1.1.1, x.1.1.1.1.2, x.1.1.1.2, x.1.1.2, x.1.2, x.2⟩) (fun x => (((((x.base, x.fields), x.init), x.vtable), x.sigs), x.tables)) (fun _ => rfl) (fun _ => rfl)
def cCode : Codec CodeD := cIso (cPair (cPair (cPair (cPair (cPair cNum cText) cText) cFlag) cNum) (cList cOp))
  (fun x => ⟨x.1.1.1.1.1, x.1.1.1.1.2, x.1.1.1.2, x.1.1.2, x.1.2, x.2⟩) (fun x => (((((x.cls, x.params), x.locals), x.ret), x.stack), x.ops)) (fun _ => rfl) (fun _ => rfl)
def cImg : Codec ImgD := cIso (cPair (cPair (cPair (cPair (cPair (cPair (cPair (cPair (cPair (cPair (cPair (cList cTexts) (cList cDesc)) (cList cCode)) cNums) cText) cNums) cNums) (cList cLink)) (cList cLink)) (cList cJob)) cNum) cNum)
  (fun x => ⟨x.1.1.1.1.1.1.1.1.1.1.1, x.1.1.1.1.1.1.1.1.1.1.2, x.1.1.1.1.1.1.1.1.1.2, x.1.1.1.1.1.1.1.1.2, x.1.1.1.1.1.1.1.2, x.1.1.1.1.1.1.2, x.1.1.1.1.1.2, x.1.1.1.1.2, x.1.1.1.2, x.1.1.2, x.1.2, x.2⟩)
  (fun x => (((((((((((x.faces, x.classes), x.codes), x.insts), x.globals), x.init), x.blocks), x.ins), x.outs), x.jobs), x.d), x.w)) (fun _ => rfl) (fun _ => rfl)

/-- 'gov-1' -/
def magic : ByteArray := ⟨#[103, 111, 118, 45, 49]⟩
def magicB : List UInt8 := [0, 0, 0, 5, 103, 111, 118, 45, 49]
/-- what Lay makes -/
def layOf (x : ImgD) : Wst := cImg.w x (wText magic ⟨[], false⟩)
/-- what Read makes: nothing where the bytes are no image's -/
def readSt (B : List UInt8) : ImgD × Rst :=
  let m := rText B ⟨0, false⟩
  cImg.r B ⟨m.2.at_, decide (m.1 ≠ magic)⟩
def readOk (B : List UInt8) : Bool := !(readSt B).2.wrong && decide ((readSt B).2.at_ = B.length)

theorem lay_some {x : ImgD} {l : List UInt8} (h : cImg.e x = some l) : layOf x = ⟨magicB ++ l, false⟩ := by
  unfold layOf
  rw [show wText magic ⟨[], false⟩ = ⟨magicB, false⟩ by rfl]
  exact cImg.lay x l _ h
theorem lay_full {x : ImgD} (h : (layOf x).full = true) : cImg.e x = none := by
  cases he : cImg.e x with
  | none => rfl
  | some l => rw [lay_some he] at h; cases h
theorem lay_fits {x : ImgD} (h : (layOf x).full = false) : ∃ l, cImg.e x = some l ∧ (layOf x).bs = magicB ++ l := by
  cases he : cImg.e x with
  | none =>
    unfold layOf at h
    rw [show wText magic ⟨[], false⟩ = ⟨magicB, false⟩ by rfl, cImg.no x _ he] at h
    cases h
  | some l => exact ⟨l, rfl, by rw [lay_some he]⟩
set_option maxRecDepth 100000 in
theorem lay_fresh {x : ImgD} {B : List UInt8} (h : (layOf x).full = false) (hb : (layOf x).bs = B) : readOk B = true ∧ (readSt B).1 = x := by
  obtain ⟨l, he, h2⟩ := lay_fits h
  rw [h2] at hb
  subst hb
  have h1 : rText (magicB ++ l) ⟨0, false⟩ = (magic, ⟨9, false⟩) := by
    have hm : eText magic = some magicB := by rfl
    have := cText.back [] magic magicB l hm
    rw [List.nil_append, List.length_nil] at this
    exact this
  have h3 : readSt (magicB ++ l) = (x, ⟨(magicB ++ l).length, false⟩) := by
    unfold readSt
    rw [h1]
    have := cImg.back magicB x l [] he
    simp only [List.append_nil] at this
    have hd : decide (magic ≠ magic) = false := by simp
    show cImg.r (magicB ++ l) ⟨9, decide (magic ≠ magic)⟩ = _
    rw [hd]
    exact this
  unfold readOk
  rw [h3]
  simp
theorem read_lay {B : List UInt8} (h : readOk B = true) : layOf (readSt B).1 = ⟨B, false⟩ := by
  unfold readOk at h
  simp only [Bool.and_eq_true, Bool.not_eq_true', decide_eq_true_eq] at h
  obtain ⟨hw, ha⟩ := h
  have hm := (cText.inside B ⟨0, false⟩ (Nat.zero_le _))
  unfold readSt at hw ha ⊢
  simp only at hw ha ⊢
  obtain ⟨g0, l, g1, g2, g3, g4⟩ := cImg.read B ⟨(rText B ⟨0, false⟩).2.at_, decide ((rText B ⟨0, false⟩).1 ≠ magic)⟩ hm hw
  have hmag : (rText B ⟨0, false⟩).1 = magic := by simpa using g0
  have hmw : (rText B ⟨0, false⟩).2.wrong = false := by
    cases hx : (rText B ⟨0, false⟩).2.wrong with
    | false => rfl
    | true =>
      exfalso
      have hc : (rCount B 1 ⟨0, false⟩).2.wrong = true := hx
      have hv : (rText B ⟨0, false⟩).1.size = 0 := by
        have hz := rCount_zero B 1 ⟨0, false⟩ hc
        show ((B.drop (rCount B 1 ⟨0, false⟩).2.at_).take (rCount B 1 ⟨0, false⟩).1).toArray.size = 0
        rw [hz]; simp
      rw [hmag] at hv
      exact absurd hv (by decide)
  obtain ⟨_, l1, f1, f2, f3, f4⟩ := cText.read B ⟨0, false⟩ (Nat.zero_le _) hmw
  rw [show (cText.r B ⟨0, false⟩).1 = magic from hmag] at f1
  have hl1 : l1 = magicB := by have := Option.some.inj (f1.symm.trans (show cText.e magic = some magicB by rfl)); exact this
  subst hl1
  have f2' : (rText B ⟨0, false⟩).2.at_ = 9 := f2
  rw [lay_some g1]
  have d1 := drop_at f3 f4
  have d2 := drop_at g3 g4
  rw [g2] at ha
  simp only at ha g4 d1 d2
  rw [f2'] at d2 ha
  have : B = magicB ++ l := by
    have e1 : B.drop 0 = magicB ++ B.drop 9 := d1
    rw [List.drop_zero] at e1
    have e2 : B.drop (9 + l.length) = [] := List.drop_of_length_le (by omega)
    rw [e2, List.append_nil] at d2
    rw [e1, d2]
  rw [← this]
/-- cut short, or with more behind: none -/
theorem read_part {B C : List UInt8} (h : readOk B = true) (hC : readOk (B ++ C) = true) : C = [] := by
  have h1 := read_lay h
  have h2 := read_lay hC
  obtain ⟨l1, e1, b1⟩ := lay_fits (by rw [h1])
  obtain ⟨l2, e2, b2⟩ := lay_fits (by rw [h2])
  rw [h1] at b1
  rw [h2] at b2
  simp only at b1 b2
  have k1 := cImg.back magicB _ l1 C e1
  have k2 := cImg.back magicB _ l2 [] e2
  rw [List.append_nil, ← b2] at k2
  rw [← b1] at k1
  rw [k1] at k2
  have := congrArg (fun x => x.2.at_) k2
  simp at this
  exact this
/-
  Shapes: what cells hold, told as data; rows of such.
-/
open Go Go.ChangeShapes Go.WideShapes Go.ChangeAt Go.RowKit Go.Joins Go.Deep Go.ChangeMaps

theorem add_at {a : Addr} (h : a.spot = none) (n : Nat) : a.add n = ⟨a.block, a.off + n, none⟩ := by
  unfold Addr.add
  split
  · subst n; cases a; simp_all
  · rfl
theorem spot_of {w : World} {a : Addr} {v : Value} (h : w.cell? a = some v) : a.spot = none := by
  unfold World.cell? at h
  split at h
  · split at h
    · cases h
    · rename_i hs; simpa using hs
  · cases h

/-- the cells from a place on -/
def CellsAt (W : World) (b o : Nat) (vs : List Value) : Prop := ∀ j v, vs[j]? = some v → W.cell? ⟨b, o + j, none⟩ = some v
theorem CellsAt.keep {W W' : World} {b o : Nat} {vs : List Value} (h : CellsAt W b o vs) (hk : W'.heap[b]? = W.heap[b]?) : CellsAt W' b o vs := fun j v hj => by
  rw [World.cell?_of_block (a := ⟨b, o + j, none⟩) hk]; exact h j v hj

/-- so many cells that hold one of T; S: the blocks in which that lies -/
structure Sh (T : Type) where
  n : Nat
  Is : (Nat → Prop) → World → List Value → T → Prop
  len : ∀ {S W vs x}, Is S W vs x → vs.length = n
  keep : ∀ {S : Nat → Prop} {W W' : World} {vs x}, (∀ k, S k → W'.heap[k]? = W.heap[k]?) → Is S W vs x → Is S W' vs x
  wide : ∀ {S S' : Nat → Prop} {W vs x}, (∀ k, S k → S' k) → Is S W vs x → Is S' W vs x

def Row {T : Type} (sh : Sh T) (S : Nat → Prop) (W : World) (a : Option Addr) (l : Nat) (xs : List T) : Prop :=
  xs.length = l ∧ (0 < l → l ≤ maxLen ∧ ∃ b o, a = some ⟨b, o, none⟩ ∧ S b ∧ ∀ i x, xs[i]? = some x → ∃ vs, CellsAt W b (o + i * sh.n) vs ∧ sh.Is S W vs x)
theorem Row.keep {T : Type} {sh : Sh T} {S : Nat → Prop} {W W' : World} {a l xs} (hk : ∀ k, S k → W'.heap[k]? = W.heap[k]?) (h : Row sh S W a l xs) : Row sh S W' a l xs := by
  refine ⟨h.1, fun hp => ?_⟩
  obtain ⟨hm, b, o, e, hS, hx⟩ := h.2 hp
  refine ⟨hm, b, o, e, hS, fun i x hi => ?_⟩
  obtain ⟨vs, h1, h2⟩ := hx i x hi
  exact ⟨vs, h1.keep (hk b hS), sh.keep hk h2⟩
theorem Row.wide {T : Type} {sh : Sh T} {S S' : Nat → Prop} {W : World} {a l xs} (hk : ∀ k, S k → S' k) (h : Row sh S W a l xs) : Row sh S' W a l xs := by
  refine ⟨h.1, fun hp => ?_⟩
  obtain ⟨hm, b, o, e, hS, hx⟩ := h.2 hp
  refine ⟨hm, b, o, e, hk b hS, fun i x hi => ?_⟩
  obtain ⟨vs, h1, h2⟩ := hx i x hi
  exact ⟨vs, h1, sh.wide hk h2⟩
theorem Row.nil {T : Type} (sh : Sh T) (S : Nat → Prop) (W : World) (a : Option Addr) : Row sh S W a 0 [] := ⟨rfl, fun h => absurd h (Nat.lt_irrefl _)⟩
theorem Row.le {T : Type} {sh : Sh T} {S : Nat → Prop} {W : World} {a l} {xs : List T} (h : Row sh S W a l xs) : l ≤ maxLen := by
  rcases Nat.eq_zero_or_pos l with h' | h'
  · omega
  · exact (h.2 h').1
/-- one item: its cells -/
theorem Row.item {T : Type} {sh : Sh T} {S : Nat → Prop} {W : World} {a l} {xs : List T} (h : Row sh S W a l xs) {i : Nat} (hi : i < l) : ∃ (b o : Nat) (x : T) (vs : List Value), a = some ⟨b, o, none⟩ ∧ S b ∧ xs[i]? = some x ∧ CellsAt W b (o + i * sh.n) vs ∧ sh.Is S W vs x := by
  obtain ⟨_, b, o, e, hS, hx⟩ := h.2 (by omega)
  have hxi : xs[i]? = some (xs[i]'(by rw [h.1]; exact hi)) := List.getElem?_eq_getElem _
  obtain ⟨vs, h1, h2⟩ := hx i _ hxi
  exact ⟨b, o, _, vs, e, hS, hxi, h1, h2⟩

def shInt : Sh Int where
  n := 1
  Is _ _ vs x := vs = [.int .i64 x]
  len h := by rw [h]; rfl
  keep _ h := h
  wide _ h := h
def shBool : Sh Bool where
  n := 1
  Is _ _ vs x := vs = [.bool x]
  len h := by rw [h]; rfl
  keep _ h := h
  wide _ h := h
def shStr : Sh ByteArray where
  n := 1
  Is _ _ vs x := vs = [.string x]
  len h := by rw [h]; rfl
  keep _ h := h
  wide _ h := h
def shSlice {T : Type} (sh : Sh T) : Sh (List T) where
  n := 1
  Is S W vs xs := ∃ a l c, vs = [.slice a l c] ∧ Row sh S W a l xs
  len h := by obtain ⟨a, l, c, rfl, _⟩ := h; rfl
  keep hk h := by obtain ⟨a, l, c, e, h⟩ := h; exact ⟨a, l, c, e, h.keep hk⟩
  wide hk h := by obtain ⟨a, l, c, e, h⟩ := h; exact ⟨a, l, c, e, h.wide hk⟩
def shPair {A C : Type} (a : Sh A) (c : Sh C) : Sh (A × C) where
  n := a.n + c.n
  Is S W vs x := ∃ us ws, vs = us ++ ws ∧ a.Is S W us x.1 ∧ c.Is S W ws x.2
  len h := by obtain ⟨us, ws, rfl, h1, h2⟩ := h; rw [List.length_append, a.len h1, c.len h2]
  keep hk h := by obtain ⟨us, ws, e, h1, h2⟩ := h; exact ⟨us, ws, e, a.keep hk h1, c.keep hk h2⟩
  wide hk h := by obtain ⟨us, ws, e, h1, h2⟩ := h; exact ⟨us, ws, e, a.wide hk h1, c.wide hk h2⟩
def shIso {A C : Type} (a : Sh A) (g : C → A) : Sh C where
  n := a.n
  Is S W vs x := a.Is S W vs (g x)
  len h := a.len h
  keep hk h := a.keep hk h
  wide hk h := a.wide hk h

def shInts : Sh (List Int) := shSlice shInt
def shTexts : Sh (List ByteArray) := shSlice shStr
def shTable : Sh TableD := shIso (shPair shInt shInts) (fun x => (x.face, x.slots))
def shOp : Sh OpD := shIso (shPair (shPair shInt shInt) shInt) (fun x => ((x.k, x.a), x.b))
def shLink : Sh LinkD := shIso (shPair (shPair shInt shInt) shBool) (fun x => ((x.g, x.s), x.b))
def shJob : Sh JobD := shIso (shPair (shPair shInt shInt) shInt) (fun x => ((x.c, x.e), x.f))
def shDesc : Sh DescD := shIso (shPair (shPair (shPair (shPair (shPair shInt shStr) shInts) shInts) shTexts) (shSlice shTable)) (fun x => (((((x.base, x.fields), x.init), x.vtable), x.sigs), x.tables))
def shCode : Sh CodeD := shIso (shPair (shPair (shPair (shPair (shPair shInt shStr) shStr) shBool) shInt) (shSlice shOp)) (fun x => (((((x.cls, x.params), x.locals), x.ret), x.stack), x.ops))
def shImg : Sh ImgD := shIso (shPair (shPair (shPair (shPair (shPair (shPair (shPair (shPair (shPair (shPair (shPair (shSlice shTexts) (shSlice shDesc)) (shSlice shCode)) shInts) shStr) shInts) shInts) (shSlice shLink)) (shSlice shLink)) (shSlice shJob)) shInt) shInt)
  (fun x => (((((((((((x.faces, x.classes), x.codes), x.insts), x.globals), x.init), x.blocks), x.ins), x.outs), x.jobs), x.d), x.w))

/-! ## a row that was appended to -/
theorem row_of_own {T : Type} {sh : Sh T} {S : Nat → Prop} {W : World} {base : Nat} {e : TypeId} {a : Option Addr} {l c : Nat} {vss : List (List Value)} {xs : List T}
    (h : W.ownsRow base e sh.n (.slice a l c) xs.length vss.flatten) (hl : vss.length = xs.length) (hi : ∀ (i : Nat) (vs : List Value) (x : T), vss[i]? = some vs → xs[i]? = some x → sh.Is S W vs x) (hS : ∀ k, (Value.slice a l c).ownBlock = some k → S k) : Row sh S W a l xs := by
  have hflat : ∀ (vss : List (List Value)) (i j : Nat) (vs : List Value) (v : Value), (∀ u ∈ vss, u.length = sh.n) → vss[i]? = some vs → vs[j]? = some v → vss.flatten[i * sh.n + j]? = some v := by
    intro vss
    induction vss with
    | nil => intro i j vs v _ h1; simp at h1
    | cons u us ih =>
      intro i j vs v hu h1 h2
      have hul := hu u (by simp)
      cases i with
      | zero =>
        simp at h1
        subst h1
        have hj : j < u.length := (List.getElem?_eq_some_iff.1 h2).1
        rw [List.flatten_cons, List.getElem?_append_left (by omega)]
        simpa using h2
      | succ i =>
        have h3 := ih i j vs v (fun x hx => hu x (by simp [hx])) (by simpa using h1) h2
        rw [List.flatten_cons, List.getElem?_append_right (by rw [hul, Nat.succ_mul]; omega), hul, Nat.succ_mul, show i * sh.n + sh.n + j - sh.n = i * sh.n + j by omega]
        exact h3
  have hlen : ∀ u ∈ vss, u.length = sh.n := by
    intro u hu
    obtain ⟨i, hi', rfl⟩ := List.getElem_of_mem hu
    exact sh.len (hi i _ (xs[i]'(by omega)) (List.getElem?_eq_getElem hi') (List.getElem?_eq_getElem (by omega)))
  rcases ownsRow_forms h with ⟨hv, hn⟩ | ⟨g, cap, hv⟩
  · simp at hv
    obtain ⟨rfl, rfl, rfl⟩ := hv
    exact ⟨hn, fun h => absurd h (Nat.lt_irrefl _)⟩
  · simp at hv
    obtain ⟨rfl, rfl, rfl⟩ := hv
    have hm : xs.length ≤ maxLen := by
      rcases h.2 with ⟨h1, _⟩ | ⟨_, _, _, h1, _, _, h2, h3, _⟩
      · simp at h1
      · exact Nat.le_trans h2 h3
    refine ⟨rfl, fun _ => ⟨hm, g, 0, rfl, hS g rfl, fun i x hx => ?_⟩⟩
    have hil : i < vss.length := by have := (List.getElem?_eq_some_iff.1 hx).1; omega
    refine ⟨vss[i], fun j v hj => ?_, hi i _ x (List.getElem?_eq_getElem hil) hx⟩
    have := h.cells (g := g) rfl _ _ (hflat vss i j _ v hlen (List.getElem?_eq_getElem hil) hj)
    rw [add_at rfl] at this
    simpa using this

/-! ## what comes in -/
section
variable {H : Type} {enc : TypeId × Value → H} {P : Program} {w : World} {base : Nat} {held : Bool}
/-- cells of a type that came in hold one of a shape -/
def Opens (enc : TypeId × Value → H) (P : Program) (w : World) (base : Nat) (held : Bool) (t : TypeId) {T : Type} (sh : Sh T) : Prop :=
  ∀ (fuel : Nat) (cs : List Value) (y : DataW H × List MemPlace), DataW.trod enc P w base (fun _ => true) held fuel t cs = some y → ∃ x, sh.Is (fun k => k < w.heap.size) w cs x

theorem opens_int {t : TypeId} (ht : P.underlying t = some (.int .i64)) : Opens enc P w base held t shInt := by
  intro fuel cs y h
  obtain ⟨a, h1, _⟩ := DataW.trod_int ht h
  exact ⟨a, h1⟩
theorem opens_bool {t : TypeId} (ht : P.underlying t = some .bool) : Opens enc P w base held t shBool := by
  intro fuel cs y h
  obtain ⟨a, h1, _⟩ := DataW.trod_bool ht h
  exact ⟨a, h1⟩
theorem opens_str {t : TypeId} (ht : P.underlying t = some .string) : Opens enc P w base held t shStr := by
  intro fuel cs y h
  obtain ⟨a, h1, _⟩ := DataW.trod_string ht h
  exact ⟨a, h1⟩
theorem opens_slice {t e : TypeId} {T : Type} {sh : Sh T} (ht : P.underlying t = some (.slice e)) (hc : P.cellsOf e = sh.n) (hn : 0 < sh.n) (he : Opens enc P w base held e sh) : Opens enc P w base held t (shSlice sh) := by
  intro fuel cs y h
  rcases open_slice ht h with ⟨hcs, _⟩ | ⟨x, l, c, m, n, D, Pl, hcs, _, hl, hm, hmm, hy, hx⟩
  · exact ⟨[], none, 0, 0, hcs, Row.nil _ _ _ _⟩
  · have hlm : l ≤ m := by rw [hmm]; split <;> omega
    have each : ∀ i, i < l → ∃ (q : T), ∃ vs, w.cells? base (x.add (i * P.cellsOf e)) (P.cellsOf e) = some vs ∧ sh.Is (fun k => k < w.heap.size) w vs q := by
      intro i hi
      obtain ⟨cs', h1, h2⟩ := hx i (by omega)
      obtain ⟨q, hq⟩ := he _ _ _ h2
      exact ⟨q, cs', h1, hq⟩
    have hall : ∃ xs : List T, xs.length = l ∧ ∀ i q, xs[i]? = some q → ∃ vs, w.cells? base (x.add (i * P.cellsOf e)) (P.cellsOf e) = some vs ∧ sh.Is (fun k => k < w.heap.size) w vs q := by
      clear hx hcs hl hm hmm hlm hy h
      induction l with
      | zero => exact ⟨[], rfl, fun i q h => by simp at h⟩
      | succ l ih =>
        obtain ⟨xs, h1, h2⟩ := ih (fun i hi => each i (by omega))
        obtain ⟨q, hq⟩ := each l (by omega)
        refine ⟨xs ++ [q], by simp [h1], fun i q' hi => ?_⟩
        rcases Nat.lt_or_ge i xs.length with h | h
        · rw [List.getElem?_append_left h] at hi
          exact h2 i q' hi
        · rw [List.getElem?_append_right h] at hi
          have hi0 : i - xs.length = 0 := by
            rcases Nat.lt_or_ge (i - xs.length) 1 with h' | h'
            · omega
            · rw [List.getElem?_eq_none (by simpa using h')] at hi; cases hi
          rw [hi0] at hi
          obtain rfl : q = q' := by simpa using hi
          obtain rfl : i = l := by omega
          exact hq
    obtain ⟨xs, h1, h2⟩ := hall
    refine ⟨xs, some x, l, c, hcs, h1, fun hp => ?_⟩
    have key : ∀ i q, xs[i]? = some q → ∃ vs, vs.length = sh.n ∧ (∀ j v, vs[j]? = some v → w.cell? ((x.add (i * sh.n)).add j) = some v) ∧ sh.Is (fun k => k < w.heap.size) w vs q := by
      intro i q hi
      obtain ⟨vs, h3, h4⟩ := h2 i q hi
      rw [hc] at h3
      obtain ⟨_, hlen, hcell⟩ := World.cells?_some h3
      refine ⟨vs, hlen, fun j v hj => ?_, h4⟩
      have hjn : j < sh.n := by have := (List.getElem?_eq_some_iff.1 hj).1; omega
      rw [hcell j hjn, hj]
    obtain ⟨vs0, k1, k2, _⟩ := key 0 (xs[0]'(by omega)) (List.getElem?_eq_getElem _)
    have k3 := k2 0 (vs0[0]'(by omega)) (List.getElem?_eq_getElem _)
    rw [Nat.zero_mul] at k3
    have k4 : w.cell? x = some (vs0[0]'(by omega)) := by simpa [Addr.add] using k3
    have hsp := spot_of k4
    refine ⟨Nat.le_trans hl hm, x.block, x.off, by cases x; simp_all, World.block_lt_of_cell? _ _ k4, fun i q hi => ?_⟩
    obtain ⟨vs, k5, k6, k7⟩ := key i q hi
    refine ⟨vs, fun j v hj => ?_, k7⟩
    have := k6 j v hj
    rw [add_at hsp, add_at rfl] at this
    exact this

theorem opens_at {t : TypeId} {T : Type} {sh : Sh T} (he : Opens enc P w base held t sh) {n : Nat} {cs : List Value} {y} (h : DataW.trod enc P w base (fun _ => true) held n t cs = some y) : ∃ x, sh.Is (fun k => k < w.heap.size) w cs x := he n cs y h

/-- the fields of a struct, a cell each -/
theorem fields_of {fs : Array Field} {t : TypeId} {fuel : Nat} {cs : List Value} {y : DataW H × List MemPlace} (ht : P.underlying t = some (.struct fs)) (hone : oneCellFields P fs = true) (hc : P.cellsOf t = fs.size)
    (h : DataW.trod enc P w base (fun _ => true) held fuel t cs = some y) : cs.length = fs.size ∧ ∀ (i : Nat) (f : Field), fs[i]? = some f → ∃ v n z, cs[i]? = some v ∧ DataW.trod enc P w base (fun _ => true) held n f.type [v] = some z := by
  obtain ⟨xs, k, _, _, hlen, hxl, hf⟩ := DataW.trod_struct ht h
  rw [hc] at hlen
  refine ⟨hlen, fun i f hi => ?_⟩
  obtain ⟨o1, c1⟩ := hone_of hone i f hi
  have hil : i < fs.size := (Array.getElem?_eq_some_iff.1 hi).1
  have h1 := hf i f hi
  rw [o1, c1, List.getElem?_eq_getElem (by omega : i < xs.length)] at h1
  have h2 : (cs.drop i).take 1 = [cs[i]'(by omega)] := by rw [List.drop_eq_getElem_cons (by omega)]; rfl
  rw [h2] at h1
  exact ⟨_, k, _, List.getElem?_eq_getElem (by omega), h1⟩
end
end Go.Proofs.YtoaohoeghlidaaaGreatDoor
