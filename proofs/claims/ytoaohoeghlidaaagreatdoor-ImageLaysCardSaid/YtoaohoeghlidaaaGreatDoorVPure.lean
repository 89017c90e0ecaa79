/-
  The document's own writer and reader, pure: what they make is what the program's make.
-/
import Derived.Test.YtoaohoeghlidaaaGreatDoorRText
namespace Go.Proofs.YtoaohoeghlidaaaGreatDoor

/-! ## what the document's functions do -/
def vNum (n : Int) (s : Wst) : Wst := ⟨s.bs ++ be n, if n < -2147483648 ∨ 2147483647 < n then true else s.full⟩
def vMany (n : Nat) (s : Wst) : Wst := vNum n ⟨s.bs, if 10000 < n then true else s.full⟩
def vText (t : ByteArray) (s : Wst) : Wst := ⟨(vMany t.size s).bs ++ t.data.toList, (vMany t.size s).full⟩
def vFlag (b : Bool) (s : Wst) : Wst := vNum (if b then 1 else 0) s
def vGo {T : Type} (one : T → Wst → Wst) : List T → Wst → Wst
  | [], s => s
  | x :: xs, s => vGo one xs (one x s)
def vList {T : Type} (one : T → Wst → Wst) (l : List T) (s : Wst) : Wst := vGo one l (vMany l.length s)
def qFlag (B : List UInt8) (s : Rst) : Bool × Rst := ((rNum B s).1 == 1, (rNum B s).2)
def qGo {T : Type} (one : Rst → T × Rst) : Nat → List T → Rst → List T × Rst
  | 0, acc, s => (acc, s)
  | n + 1, acc, s => if s.wrong then (acc, s) else qGo one n (acc ++ [(one s).1]) (one s).2
def qMany {T : Type} (B : List UInt8) (one : Rst → T × Rst) (s : Rst) : List T × Rst := qGo one (rCount B 1 s).1 [] (rCount B 1 s).2

/-- the document's own way with what a codec lays and reads -/
structure Doc {T : Type} (c : Codec T) where
  v : T → Wst → Wst
  q : List UInt8 → Rst → T × Rst
  lay : ∀ x l s, c.e x = some l → v x s = ⟨s.bs ++ l, s.full⟩
  no : ∀ x s, c.e x = none → (v x s).full = true
  stay : ∀ x s, s.full = true → (v x s).full = true
  mono : ∀ x s, s.bs.length ≤ (v x s).bs.length
  sim : ∀ B s, s.at_ ≤ B.length → (c.r B s).2.wrong = false → q B s = c.r B s
  fit : ∀ B s, ∃ l, c.e (q B s).1 = some l
  inside : ∀ B s, s.at_ ≤ B.length → (q B s).2.at_ ≤ B.length

theorem vNum_mono (n : Int) (s : Wst) : s.bs.length ≤ (vNum n s).bs.length := by
  unfold vNum; rw [List.length_append]; exact Nat.le_add_right _ _
theorem vMany_bs (n : Nat) (s : Wst) : (vMany n s).bs = s.bs ++ be n := rfl
theorem vMany_fits {n : Nat} (h : n ≤ 10000) (s : Wst) : vMany n s = ⟨s.bs ++ be n, s.full⟩ := by
  unfold vMany vNum
  rw [if_neg (by omega), if_neg (by omega)]
theorem vMany_no {n : Nat} (h : 10000 < n) (s : Wst) : (vMany n s).full = true := by
  unfold vMany vNum
  simp only
  rw [if_pos h]
  split <;> rfl
theorem vMany_stay (n : Nat) (s : Wst) (h : s.full = true) : (vMany n s).full = true := by
  unfold vMany vNum
  simp only [h, ite_self]
def dNum : Doc cNum where
  v := vNum
  q := rNum
  lay x l s h := by
    change eNum x = some l at h
    unfold eNum at h
    unfold vNum
    split at h
    · cases h
    · rename_i hc
      rw [if_neg hc, ← Option.some.inj h]
  no x s h := by
    change eNum x = none at h
    unfold eNum at h
    unfold vNum
    split at h
    · rename_i hc
      simp only [hc, if_true]
    · cases h
  stay x s h := by unfold vNum; simp only [h, ite_self]
  mono := vNum_mono
  sim B s _ _ := rfl
  fit B s := by
    have h := rNum_bd B s
    exact ⟨be (rNum B s).1, by show eNum _ = _; unfold eNum; rw [if_neg (by omega)]⟩
  inside := rNum_inside
theorem rText_size (B : List UInt8) (s : Rst) : (rText B s).1.size ≤ 10000 := by
  show ((B.drop (rCount B 1 s).2.at_).take (rCount B 1 s).1).toArray.size ≤ 10000
  have := rCount_le B 1 s
  simp only [List.size_toArray, List.length_take]
  omega
def dText : Doc cText where
  v := vText
  q := rText
  lay x l s h := by
    change eText x = some l at h
    unfold eText at h
    unfold vText
    split at h
    · cases h
    · rename_i hc
      rw [vMany_fits (by omega), ← Option.some.inj h, List.append_assoc]
  no x s h := by
    change eText x = none at h
    unfold eText at h
    split at h
    · rename_i hc
      exact vMany_no hc s
    · cases h
  stay x s h := vMany_stay _ s h
  mono x s := by
    show s.bs.length ≤ ((vMany x.size s).bs ++ x.data.toList).length
    rw [List.length_append, vMany_bs, List.length_append]
    omega
  sim B s _ _ := rfl
  fit B s := by
    have h := rText_size B s
    exact ⟨_, by show eText _ = _; unfold eText; rw [if_neg (by omega)]⟩
  inside := cText.inside
def dFlag : Doc cFlag where
  v := vFlag
  q := qFlag
  lay x l s h := by
    rw [← Option.some.inj h]
    unfold vFlag vNum
    cases x <;> simp
  no x s h := by cases h
  stay x s h := by unfold vFlag vNum; simp only [h, ite_self]
  mono x s := vNum_mono _ s
  sim B s _ h := by
    change (rFlag B s).2.wrong = false at h
    show qFlag B s = rFlag B s
    unfold rFlag at h ⊢
    unfold qFlag
    simp only at h ⊢
    split at h
    · cases h
    · rename_i hc
      rw [if_neg hc]
  fit B s := ⟨_, rfl⟩
  inside B s hs := rNum_inside B s hs
def dPair {A C : Type} {a : Codec A} {c : Codec C} (da : Doc a) (dc : Doc c) : Doc (cPair a c) where
  v x s := dc.v x.2 (da.v x.1 s)
  q B s := ((( da.q B s).1, (dc.q B (da.q B s).2).1), (dc.q B (da.q B s).2).2)
  lay x l s h := by
    change (match a.e x.1, c.e x.2 with | some l, some m => some (l ++ m) | _, _ => none) = some l at h
    cases h1 : a.e x.1 with
    | none => simp [h1] at h
    | some l1 =>
      cases h2 : c.e x.2 with
      | none => simp [h1, h2] at h
      | some l2 =>
        simp only [h1, h2, Option.some.injEq] at h
        rw [da.lay _ _ _ h1, dc.lay _ _ _ h2, ← h, List.append_assoc]
  no x s h := by
    change (match a.e x.1, c.e x.2 with | some l, some m => some (l ++ m) | _, _ => none) = none at h
    cases h1 : a.e x.1 with
    | none => exact dc.stay _ _ (da.no _ _ h1)
    | some l1 =>
      cases h2 : c.e x.2 with
      | none => exact dc.no _ _ h2
      | some l2 => simp [h1, h2] at h
  stay x s h := dc.stay _ _ (da.stay _ _ h)
  mono x s := Nat.le_trans (da.mono _ _) (dc.mono _ _)
  sim B s hs h := by
    change (c.r B (a.r B s).2).2.wrong = false at h
    show _ = (((a.r B s).1, (c.r B (a.r B s).2).1), (c.r B (a.r B s).2).2)
    obtain ⟨g0, _⟩ := c.read B _ (a.inside B s hs) h
    have e1 := da.sim B s hs g0
    have e2 := dc.sim B (a.r B s).2 (a.inside B s hs) h
    rw [e1, e2]
  fit B s := by
    obtain ⟨l, h1⟩ := da.fit B s
    obtain ⟨m, h2⟩ := dc.fit B (da.q B s).2
    exact ⟨l ++ m, by show (match a.e _, c.e _ with | some l, some m => some (l ++ m) | _, _ => none) = _; rw [h1, h2]⟩
  inside B s hs := dc.inside B _ (da.inside B s hs)
def dIso {A C : Type} {a : Codec A} (da : Doc a) (f : A → C) (g : C → A) (h : ∀ x, f (g x) = x) (h' : ∀ x, g (f x) = x) : Doc (cIso a f g h h') where
  v x := da.v (g x)
  q B s := (f (da.q B s).1, (da.q B s).2)
  lay x := da.lay (g x)
  no x := da.no (g x)
  stay x := da.stay (g x)
  mono x := da.mono (g x)
  sim B s hs hw := by
    change (a.r B s).2.wrong = false at hw
    show _ = (f (a.r B s).1, (a.r B s).2)
    rw [da.sim B s hs hw]
  fit B s := by
    obtain ⟨l, h1⟩ := da.fit B s
    exact ⟨l, by show a.e (g (f _)) = _; rw [h', h1]⟩
  inside := da.inside
theorem vGo_lay {T : Type} {c : Codec T} (d : Doc c) : ∀ (xs : List T) l s, eGo c.e xs = some l → vGo d.v xs s = ⟨s.bs ++ l, s.full⟩
  | [], l, s, h => by unfold eGo at h; rw [← Option.some.inj h]; simp [vGo]
  | x :: xs, l, s, h => by
    unfold eGo at h
    cases h1 : c.e x with
    | none => simp [h1] at h
    | some l1 =>
      cases h2 : eGo c.e xs with
      | none => simp [h1, h2] at h
      | some l2 =>
        simp only [h1, h2, Option.some.injEq] at h
        unfold vGo
        rw [d.lay _ _ _ h1, vGo_lay d xs l2 _ h2, ← h, List.append_assoc]
theorem vGo_stay {T : Type} {c : Codec T} (d : Doc c) : ∀ (xs : List T) s, s.full = true → (vGo d.v xs s).full = true
  | [], _, h => h
  | x :: xs, s, h => vGo_stay d xs _ (d.stay x s h)
theorem vGo_no {T : Type} {c : Codec T} (d : Doc c) : ∀ (xs : List T) s, eGo c.e xs = none → (vGo d.v xs s).full = true
  | [], s, h => by unfold eGo at h; cases h
  | x :: xs, s, h => by
    unfold eGo at h
    unfold vGo
    cases h1 : c.e x with
    | none => exact vGo_stay d xs _ (d.no x s h1)
    | some l1 =>
      cases h2 : eGo c.e xs with
      | none => exact vGo_no d xs _ h2
      | some l2 => simp [h1, h2] at h
theorem vGo_mono {T : Type} {c : Codec T} (d : Doc c) : ∀ (xs : List T) s, s.bs.length ≤ (vGo d.v xs s).bs.length
  | [], _ => Nat.le_refl _
  | x :: xs, s => Nat.le_trans (d.mono x s) (vGo_mono d xs _)
theorem qGo_inside {T : Type} {c : Codec T} (d : Doc c) (B : List UInt8) : ∀ (n : Nat) (acc : List T) (s : Rst), s.at_ ≤ B.length → (qGo (d.q B) n acc s).2.at_ ≤ B.length
  | 0, _, _, h => h
  | n + 1, acc, s, h => by
    unfold qGo
    split
    · exact h
    · exact qGo_inside d B n _ _ (d.inside B s h)
theorem qGo_sim {T : Type} {c : Codec T} (d : Doc c) (B : List UInt8) : ∀ (n : Nat) (acc : List T) (s : Rst), s.at_ ≤ B.length → (rGo (c.r B) n acc s).2.wrong = false → qGo (d.q B) n acc s = rGo (c.r B) n acc s
  | 0, _, _, _, _ => rfl
  | n + 1, acc, s, hs, h => by
    have hsw : s.wrong = false := by
      cases hw : s.wrong with
      | false => rfl
      | true => rw [rGo_wrong c B (n + 1) acc s hw] at h; cases h
    unfold rGo at h ⊢
    unfold qGo
    rw [if_neg (by simp [hsw])] at h ⊢
    rw [if_neg (by simp [hsw])]
    have hw : (c.r B s).2.wrong = false := by
      cases hw : (c.r B s).2.wrong with
      | false => rfl
      | true => rw [rGo_wrong c B n _ _ hw] at h; cases h
    rw [d.sim B s hs hw]
    exact qGo_sim d B n _ _ (c.inside B s hs) h
theorem qGo_fit {T : Type} {c : Codec T} (d : Doc c) (B : List UInt8) : ∀ (n : Nat) (acc : List T) (s : Rst), (∀ x ∈ acc, ∃ l, c.e x = some l) → (∀ x ∈ (qGo (d.q B) n acc s).1, ∃ l, c.e x = some l) ∧ (qGo (d.q B) n acc s).1.length ≤ acc.length + n
  | 0, acc, s, h => ⟨h, Nat.le_refl _⟩
  | n + 1, acc, s, h => by
    unfold qGo
    split
    · exact ⟨h, Nat.le_add_right _ _⟩
    · obtain ⟨h1, h2⟩ := qGo_fit d B n (acc ++ [(d.q B s).1]) (d.q B s).2 (fun x hx => by
        rcases List.mem_append.1 hx with hx | hx
        · exact h x hx
        · rw [List.mem_singleton.1 hx]; exact d.fit B s)
      exact ⟨h1, by rw [List.length_append] at h2; simp only [List.length_singleton] at h2; omega⟩
theorem eGo_all {T : Type} {e : T → Option (List UInt8)} : ∀ (xs : List T), (∀ x ∈ xs, ∃ l, e x = some l) → ∃ l, eGo e xs = some l
  | [], _ => ⟨[], rfl⟩
  | x :: xs, h => by
    obtain ⟨l, h1⟩ := h x List.mem_cons_self
    obtain ⟨m, h2⟩ := eGo_all xs (fun y hy => h y (List.mem_cons_of_mem _ hy))
    exact ⟨l ++ m, by unfold eGo; rw [h1, h2]⟩
theorem rCount_sim {B : List UInt8} {s : Rst} (h : (rCount B 4 s).2.wrong = false) : rCount B 1 s = rCount B 4 s := by
  unfold rCount at h ⊢
  simp only at h ⊢
  split at h
  · cases h
  · rename_i hc
    rw [if_neg hc, if_neg]
    have := Nat.div_le_self (B.length - (rNum B s).2.at_) 4
    rw [Nat.div_one]
    omega
def dList {T : Type} {c : Codec T} (d : Doc c) : Doc (cList c) where
  v := vList d.v
  q B := qMany B (d.q B)
  lay xs l s h := by
    change eList c.e xs = some l at h
    unfold eList at h
    unfold vList
    split at h
    · cases h
    · rename_i hc
      obtain ⟨m, hm, rfl⟩ := Option.map_eq_some_iff.1 h
      rw [vMany_fits (by omega), vGo_lay d xs m _ hm, List.append_assoc]
  no xs s h := by
    change eList c.e xs = none at h
    unfold eList at h
    unfold vList
    split at h
    · rename_i hc
      exact vGo_stay d xs _ (vMany_no hc s)
    · exact vGo_no d xs _ (Option.map_eq_none_iff.1 h)
  stay xs s h := vGo_stay d xs _ (vMany_stay _ s h)
  mono xs s := Nat.le_trans (by rw [vMany_bs, List.length_append]; exact Nat.le_add_right _ _) (vGo_mono d xs (vMany xs.length s))
  sim B s hs h := by
    change (rMany B (c.r B) s).2.wrong = false at h
    show qMany B (d.q B) s = rMany B (c.r B) s
    have h4 := rMany_wrong B c s h
    unfold qMany
    rw [rCount_sim h4]
    exact qGo_sim d B _ _ _ (rCount_inside B 4 s hs) h
  fit B s := by
    obtain ⟨h1, h2⟩ := qGo_fit d B (rCount B 1 s).1 [] (rCount B 1 s).2 (fun x hx => by cases hx)
    obtain ⟨m, hm⟩ := eGo_all _ h1
    have hc := rCount_le B 1 s
    refine ⟨be (qMany B (d.q B) s).1.length ++ m, ?_⟩
    show eList c.e _ = _
    unfold eList
    have h3 : (qMany B (d.q B) s).1.length ≤ 10000 := Nat.le_trans h2 (by rw [List.length_nil, Nat.zero_add]; exact hc)
    rw [if_neg (by omega)]
    show (eGo c.e (qGo (d.q B) (rCount B 1 s).1 [] (rCount B 1 s).2).1).map _ = _
    rw [hm]
    rfl
  inside B s hs := qGo_inside d B _ _ _ (rCount_inside B 1 s hs)

def dNums : Doc cNums := dList dNum
def dTexts : Doc cTexts := dList dText
def dTable : Doc cTable := dIso (dPair dNum dNums) _ _ _ _
def dOp : Doc cOp := dIso (dPair (dPair dNum dNum) dNum) _ _ _ _
def dLink : Doc cLink := dIso (dPair (dPair dNum dNum) dFlag) _ _ _ _
def dJob : Doc cJob := dIso (dPair (dPair dNum dNum) dNum) _ _ _ _
def dDesc : Doc cDesc := dIso (dPair (dPair (dPair (dPair (dPair dNum dText) dNums) dNums) dTexts) (dList dTable)) _ _ _ _
def dCode : Doc cCode := dIso (dPair (dPair (dPair (dPair (dPair dNum dText) dText) dFlag) dNum) (dList dOp)) _ _ _ _
def dImg : Doc cImg := dIso (dPair (dPair (dPair (dPair (dPair (dPair (dPair (dPair (dPair (dPair (dPair (dList dTexts) (dList dDesc)) (dList dCode)) dNums) dText) dNums) dNums) (dList dLink)) (dList dLink)) (dList dJob)) dNum) dNum) _ _ _ _

/-- what the document's Read goes through -/
def readDoc (B : List UInt8) : ImgD × Rst := dImg.q B (rText B ⟨0, false⟩).2
/-- what the document's Lay makes -/
def layDoc (x : ImgD) : Wst := dImg.v x (vText magic ⟨[], false⟩)
theorem magic_doc : vText magic ⟨[], false⟩ = ⟨magicB, false⟩ := by rfl
theorem doc_fits (x : ImgD) (l : List UInt8) (h : cImg.e x = some l) : layDoc x = ⟨magicB ++ l, false⟩ := by
  unfold layDoc
  rw [magic_doc, dImg.lay x l _ h]
theorem doc_lay (x : ImgD) (h : (layOf x).full = false) : layDoc x = layOf x := by
  obtain ⟨l, h1, h2⟩ := lay_fits h
  rw [doc_fits x l h1, lay_some h1]
theorem doc_full (x : ImgD) : (layDoc x).full = (layOf x).full := by
  cases h : (layOf x).full with
  | false => rw [doc_lay x h, h]
  | true =>
    unfold layDoc
    exact dImg.no x _ (lay_full h)
theorem readDoc_fits (B : List UInt8) : (layOf (readDoc B).1).full = false := by
  obtain ⟨l, h⟩ := dImg.fit B (rText B ⟨0, false⟩).2
  show (layOf (dImg.q B (rText B ⟨0, false⟩).2).1).full = false
  rw [lay_some h]
set_option maxRecDepth 100000 in
theorem doc_yes {B : List UInt8} (h : readOk B = true) : (readDoc B).2.wrong = false ∧ (readDoc B).1 = (readSt B).1 ∧ (layOf (readDoc B).1).bs = B := by
  have h1 := read_lay h
  obtain ⟨l, he, h2⟩ := lay_fits (by rw [h1])
  rw [h1] at h2
  have hb : B = magicB ++ l := h2
  have h3 : rText B ⟨0, false⟩ = (magic, ⟨9, false⟩) := by
    have hm : eText magic = some magicB := by rfl
    have := cText.back [] magic magicB l hm
    rw [List.nil_append, List.length_nil] at this
    rw [hb]
    exact this
  have hd : decide (magic ≠ magic) = false := by simp
  have h4 : readSt B = cImg.r B ⟨9, false⟩ := by
    unfold readSt
    rw [h3]
    show cImg.r B ⟨9, decide (magic ≠ magic)⟩ = _
    rw [hd]
  have hw : (readSt B).2.wrong = false := by
    unfold readOk at h
    simp only [Bool.and_eq_true, Bool.not_eq_true'] at h
    exact h.1
  have h5 : readDoc B = readSt B := by
    rw [h4] at hw ⊢
    unfold readDoc
    rw [h3]
    exact dImg.sim B ⟨9, false⟩ (by show 9 ≤ B.length; rw [hb, List.length_append]; exact Nat.le_add_right 9 _) hw
  rw [h5]
  exact ⟨hw, rfl, by rw [h1]⟩
theorem doc_no {B : List UInt8} (h : readOk B = false) : (layOf (readDoc B).1).bs ≠ B := by
  intro hb
  have := (lay_fresh (readDoc_fits B) hb).1
  rw [h] at this
  cases this
end Go.Proofs.YtoaohoeghlidaaaGreatDoor
