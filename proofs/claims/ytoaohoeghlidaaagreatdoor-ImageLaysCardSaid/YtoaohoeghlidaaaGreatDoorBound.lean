/-
  What the document lays of a small image is short.
-/
import Derived.Test.YtoaohoeghlidaaaGreatDoorBig2
import Derived.Test.YtoaohoeghlidaaaGreatDoorVPure
namespace Go.Proofs.YtoaohoeghlidaaaGreatDoor

/-- so many bytes more at most -/
def Bd {T : Type} {c : Codec T} (d : Doc c) (x : T) (g : Nat) : Prop := ∀ s, (d.v x s).bs.length ≤ s.bs.length + g
theorem bd_num (n : Int) : Bd dNum n 4 := fun s => by
  show (s.bs ++ be n).length ≤ _
  rw [List.length_append, be_len]
  exact Nat.le_refl _
theorem bd_flag (b : Bool) : Bd dFlag b 4 := fun s => bd_num _ s
theorem bd_text {t : ByteArray} {q : Nat} (h : t.size ≤ q) : Bd dText t (4 + q) := fun s => by
  show ((vMany t.size s).bs ++ t.data.toList).length ≤ _
  rw [List.length_append, vMany_bs, List.length_append, be_len]
  have : t.data.toList.length = t.size := rfl
  omega
theorem bd_go {T : Type} {c : Codec T} {d : Doc c} {g : Nat} : ∀ (xs : List T) (s : Wst), (∀ (j : Nat) (x : T), xs[j]? = some x → Bd d x g) → (vGo d.v xs s).bs.length ≤ s.bs.length + xs.length * g
  | [], s, _ => by simp [vGo]
  | x :: xs, s, h => by
    unfold vGo
    have h1 := h 0 x rfl s
    have h2 := bd_go xs (d.v x s) (fun j y hy => h (j + 1) y (by simpa using hy))
    rw [List.length_cons, Nat.succ_mul]
    omega
theorem bd_list {T : Type} {c : Codec T} {d : Doc c} {xs : List T} {m g : Nat} (hl : xs.length ≤ m) (h : ∀ (j : Nat) (x : T), xs[j]? = some x → Bd d x g) : Bd (dList d) xs (4 + m * g) := fun s => by
  have h1 := bd_go xs (vMany xs.length s) h
  have h2 : xs.length * g ≤ m * g := Nat.mul_le_mul_right g hl
  have h3 : (vMany xs.length s).bs.length = s.bs.length + 4 := by rw [vMany_bs, List.length_append, be_len]
  show (vGo d.v xs (vMany xs.length s)).bs.length ≤ _
  omega
theorem bd_pair {A C : Type} {a : Codec A} {c : Codec C} {da : Doc a} {dc : Doc c} {x : A} {y : C} {g h : Nat} (h1 : Bd da x g) (h2 : Bd dc y h) : Bd (dPair da dc) (x, y) (g + h) := fun s => by
  show (dc.v y (da.v x s)).bs.length ≤ _
  have e1 := h1 s
  have e2 := h2 (da.v x s)
  omega
theorem bd_iso {A C : Type} {a : Codec A} {da : Doc a} {f : A → C} {g : C → A} {h h'} {x : C} {n : Nat} (h1 : Bd da (g x) n) : Bd (dIso da f g h h') x n := h1
theorem bd_nums {xs : List Int} {m : Nat} (h : (xs.length : Int) ≤ m) : Bd (dList dNum) xs (4 + m * 4) := bd_list (by omega) (fun _ x _ => bd_num x)
theorem bd_texts {xs : List ByteArray} {p q : Nat} (h : SmallT p q xs) : Bd (dList dText) xs (4 + p * (4 + q)) := bd_list (by have := h.1; omega) (fun j t ht => bd_text (by have := h.2 j t ht; omega))
theorem bd_table {t : TableD} (h : (t.slots.length : Int) ≤ 40) : Bd dTable t (4 + (4 + 40 * 4)) := bd_iso (bd_pair (bd_num _) (bd_nums (m := 40) h))
theorem bd_op (t : OpD) : Bd dOp t (4 + 4 + 4) := bd_iso (bd_pair (bd_pair (bd_num _) (bd_num _)) (bd_num _))
theorem bd_link (t : LinkD) : Bd dLink t (4 + 4 + 4) := bd_iso (bd_pair (bd_pair (bd_num _) (bd_num _)) (bd_flag _))
theorem bd_job (t : JobD) : Bd dJob t (4 + 4 + 4) := bd_iso (bd_pair (bd_pair (bd_num _) (bd_num _)) (bd_num _))
theorem bd_desc {t : DescD} (h : SmallD t) : ∃ g, g ≤ 20000 ∧ Bd dDesc t g := by
  obtain ⟨h1, h2, h3, h4, h5, h6⟩ := h
  refine ⟨_, ?_, bd_iso (bd_pair (bd_pair (bd_pair (bd_pair (bd_pair (bd_num _) (bd_text (q := 60) (by omega))) (bd_nums (m := 60) h2)) (bd_nums (m := 60) h3)) (bd_texts (p := 40) (q := 60) h5)) (bd_list (m := 60) (g := 4 + (4 + 40 * 4)) (by omega) (fun j u hu => bd_table (h6 j u hu))))⟩
  omega
theorem bd_code {t : CodeD} (h : SmallC t) : ∃ g, g ≤ 20000 ∧ Bd dCode t g := by
  obtain ⟨h1, h2, h3⟩ := h
  refine ⟨_, ?_, bd_iso (bd_pair (bd_pair (bd_pair (bd_pair (bd_pair (bd_num _) (bd_text (q := 60) (by omega))) (bd_text (q := 60) (by omega))) (bd_flag _)) (bd_num _)) (bd_list (m := 200) (g := 4 + 4 + 4) (by omega) (fun _ u _ => bd_op u)))⟩
  omega
theorem bd_up {T : Type} {c : Codec T} {d : Doc c} {x : T} {g h : Nat} (h1 : Bd d x g) (hl : g ≤ h) : Bd d x h := fun s => Nat.le_trans (h1 s) (by omega)
theorem small_len {x : ImgD} (h : SmallI x) : (layDoc x).bs.length ≤ 100000000000000 := by
  obtain ⟨⟨l0, l1, l2, l3, l5, l6, l7, l8, l9⟩, hg, hf, hd, hc⟩ := h
  have hb : Bd dImg x _ := bd_iso (bd_pair (bd_pair (bd_pair (bd_pair (bd_pair (bd_pair (bd_pair (bd_pair (bd_pair (bd_pair (bd_pair
    (bd_list (m := 40) (g := 4 + 20 * (4 + 60)) (by omega) (fun j t ht => bd_texts (p := 20) (q := 60) (hf j t ht)))
    (bd_list (m := 40) (g := 20000) (by omega) (fun j t ht => by obtain ⟨g, h1, h2⟩ := bd_desc (hd j t ht); exact bd_up h2 h1)))
    (bd_list (m := 40) (g := 20000) (by omega) (fun j t ht => by obtain ⟨g, h1, h2⟩ := bd_code (hc j t ht); exact bd_up h2 h1)))
    (bd_nums (m := 40) l3)) (bd_text (q := 60) (by omega))) (bd_nums (m := 40) l5)) (bd_nums (m := 40) l6))
    (bd_list (m := 40) (g := 4 + 4 + 4) (by omega) (fun _ u _ => bd_link u))) (bd_list (m := 40) (g := 4 + 4 + 4) (by omega) (fun _ u _ => bd_link u)))
    (bd_list (m := 40) (g := 4 + 4 + 4) (by omega) (fun _ u _ => bd_job u))) (bd_num _)) (bd_num _))
  have h9 := hb (vText magic ⟨[], false⟩)
  have h10 : (vText magic ⟨[], false⟩).bs.length = 9 := by rfl
  rw [h10] at h9
  exact Nat.le_trans h9 (by omega)
end Go.Proofs.YtoaohoeghlidaaaGreatDoor
