/-
  The document's Read.
-/
import Derived.Test.YtoaohoeghlidaaaGreatDoorQParts
import Derived.Test.YtoaohoeghlidaaaGreatDoorVLay
import Derived.Test.YtoaohoeghlidaaaGreatDoorUpto
import Derived.Deep.CutBlock
import Derived.Great.BuildSlice
import Derived.Test.YtoaohoeghlidaaaGreatDoorRead
import Derived.Test.YtoaohoeghlidaaaGreatDoorNe
import Derived.Test.YtoaohoeghlidaaaGreatDoorBack
namespace Go.Proofs.YtoaohoeghlidaaaGreatDoor
open Go.ChangeShapes Go.WideShapes Go.ChangeAt Go.RowKit

/-- what the document's Read answers -/
def DocRead (W W' : World) (B : List UInt8) (e : Ending) : Prop :=
  (readOk B = true ∧ ∃ vs, e = .returned (.tuple #[.agg vs.toArray, .int .i64 0]) ∧ shImg.Is (fun k => W.heap.size ≤ k ∧ k < W'.heap.size) W' vs (readSt B).1)
  ∨ (readOk B = false ∧ e = .returned (.tuple #[.agg #[.slice none 0 0, .slice none 0 0, .slice none 0 0, .slice none 0 0, .string ⟨#[]⟩, .slice none 0 0, .slice none 0 0, .slice none 0 0, .slice none 0 0, .slice none 0 0, .int .i64 0, .int .i64 0], .int .i64 19]))
theorem Bytes.lift {W : World} {lim lim' : Nat} {a : Option Addr} {n cap : Nat} {B : List UInt8} (h : Bytes W lim a n cap B) (hl : lim ≤ lim') : Bytes W lim' a n cap B := by
  obtain ⟨h1, h2, h3, h4⟩ := h
  refine ⟨h1, h2, h3, ?_⟩
  rcases h4 with h4 | ⟨bb, o, e, hb, hc⟩
  · exact .inl h4
  · exact .inr ⟨bb, o, e, by omega, hc⟩
theorem KFr.below {b lo : Nat} {V W W' : World} (h : KFr b V W') (hb : lo ≤ b) (hV : Below lo W V) (hs : lo ≤ V.heap.size) : Below lo W W' :=
  ⟨h.os.trans hV.os, h.tape.trans hV.tape, h.output.trans hV.output, Nat.le_trans hV.size h.size, fun k hk => (h.block k (by omega) (by omega)).trans (hV.block k hk)⟩
theorem size78 : (Tryz.prog.info? 78).map (·.size) = some 3 := by kernel_rfl
theorem size29q : (Tryz.prog.info? 29).map (·.size) = some 12 := by kernel_rfl
theorem zero_one29 : (#[.slice none 0 0, .slice none 0 0, .slice none 0 0, .slice none 0 0, .string ⟨#[]⟩, .slice none 0 0, .slice none 0 0, .slice none 0 0, .slice none 0 0, .slice none 0 0, .int .i64 0, .int .i64 0] : Array Value).all (·.oneCell') = true := by simp [Value.oneCell']

theorem row_wide {T : Type} {sh : Sh T} {lo : Nat} {ts ts' : List TypeId} {W : World} {a : Option Addr} {l : Nat} {xs : List T} (h : Row sh (SB lo ts W) W a l xs) (ht : ∀ t, t ∈ ts → t ∈ ts') : Row sh (SB lo ts' W) W a l xs :=
  h.wide (fun _ ⟨h1, cs, t, fz, h2, h3⟩ => ⟨h1, cs, t, fz, h2, ht t h3⟩)
theorem below_all {b : Nat} {V V' : World} (h : Below V.heap.size V V') : KFr b V V' := ⟨h.os, h.tape, h.output, h.size, fun k hk _ => h.block k hk⟩
theorem bytes_inj {L B : List UInt8} (h : (⟨L.toArray⟩ : ByteArray) = ⟨B.toArray⟩) : L = B := by
  have h1 := congrArg (fun u : ByteArray => u.data.toList) h
  simpa using h1
theorem conv_bytes {W : World} {lim : Nat} {a : Option Addr} {n cap : Nat} {B : List UInt8} (h : Bytes W lim a n cap B) : (convert 32 9 (.slice a n cap)).run Tryz.prog W = .ok (.string ⟨B.toArray⟩) W := by
  obtain ⟨h1, h2, h3, h4⟩ := h
  rcases h4 with ⟨rfl, h4⟩ | ⟨bb, o, rfl, _, hc⟩
  · obtain rfl : cap = 0 := h4
    obtain rfl : n = 0 := by omega
    obtain rfl : B = [] := List.length_eq_zero_iff.1 h1
    rw [run_convert_bytes_string W 32 9 5 none 0 0 Tryz.underlying32 Tryz.underlying5 Tryz.underlying9]; rfl
  · have h := run_convert_bytes_back (P := Tryz.prog) W 32 9 5 ⟨bb, o, none⟩ cap B Tryz.underlying32 Tryz.underlying5 Tryz.underlying9 (fun j hj => by
      rw [add_at rfl]
      exact hc j _ (List.getElem?_eq_getElem hj))
    rw [h1] at h
    exact h

set_option maxHeartbeats 16000000 in
set_option maxRecDepth 100000 in
theorem qimg_any (W : World) (Bs : List UInt8) (a : Option Addr) (n cap : Nat) (hBs : Bytes W W.heap.size a n cap Bs) (hlen : Bs.length ≤ 10000000000000) :
    Calls Tryz.prog 18 #[.slice a n cap] W fun e W' => DocRead W W' Bs e ∧ Below W.heap.size W W' := by
  obtain ⟨AA, hAA⟩ : ∃ AA, ((W.alloc (.cells #[.slice none 0 0, .slice none 0 0, .slice none 0 0, .slice none 0 0, .string ⟨#[]⟩, .slice none 0 0, .slice none 0 0, .slice none 0 0, .slice none 0 0, .slice none 0 0, .int .i64 0, .int .i64 0] 29)).alloc (.cells #[.slice a n cap, .int .i64 0, .bool false] 99)) = AA := ⟨_, rfl⟩
  have hsA : AA.heap.size = W.heap.size + 2 := by rw [← hAA]; simp
  have hbA : Below W.heap.size W AA := by rw [← hAA]; exact ((Below.refl W.heap.size W).alloc (Nat.le_refl _) _).alloc (by simp) _
  have hj0 : AA.heap[W.heap.size]? = some (.cells #[.slice none 0 0, .slice none 0 0, .slice none 0 0, .slice none 0 0, .string ⟨#[]⟩, .slice none 0 0, .slice none 0 0, .slice none 0 0, .slice none 0 0, .slice none 0 0, .int .i64 0, .int .i64 0] 29 (0, 0)) := by rw [← hAA]; exact (Below.heap_alloc _ _ _ (by simp)).trans (heap_alloc_new W _)
  have hq0 : QAt AA (W.heap.size + 1) Bs ⟨0, false⟩ := by
    refine ⟨a, n, cap, ?_, (hBs.keep (fun k hk => hbA.block k hk)).lift (Nat.le_succ _), Nat.zero_le _, hlen⟩
    rw [← hAA]
    have := heap_alloc_new (W.alloc (.cells #[.slice none 0 0, .slice none 0 0, .slice none 0 0, .slice none 0 0, .string ⟨#[]⟩, .slice none 0 0, .slice none 0 0, .slice none 0 0, .slice none 0 0, .slice none 0 0, .int .i64 0, .int .i64 0] 29)) (.cells #[.slice a n cap, .int .i64 0, .bool false] 99)
    rw [show (W.alloc (.cells #[.slice none 0 0, .slice none 0 0, .slice none 0 0, .slice none 0 0, .string ⟨#[]⟩, .slice none 0 0, .slice none 0 0, .slice none 0 0, .slice none 0 0, .slice none 0 0, .int .i64 0, .int .i64 0] 29)).heap.size = W.heap.size + 1 by simp] at this
    exact this
  have HBS := Lib.hid (show Bytes AA W.heap.size a n cap Bs from hBs.keep (fun k hk => hbA.block k hk))
  have HBA := Lib.hid hbA
  have hblt : (W.heap.size + 1) < AA.heap.size := by omega
  have HQ0 := Lib.hid (hq0.alloc (.cells #[.slice none 0 0, .slice none 0 0, .slice none 0 0, .slice none 0 0, .string ⟨#[]⟩, .slice none 0 0, .slice none 0 0, .slice none 0 0, .slice none 0 0, .slice none 0 0, .int .i64 0, .int .i64 0] 29))
  have HF0 := Lib.hid ((KFr.refl (W.heap.size + 1) AA).alloc (.cells #[.slice none 0 0, .slice none 0 0, .slice none 0 0, .slice none 0 0, .string ⟨#[]⟩, .slice none 0 0, .slice none 0 0, .slice none 0 0, .slice none 0 0, .slice none 0 0, .int .i64 0, .int .i64 0] 29))
  have HD0 := Lib.hid (show (AA.alloc (.cells #[.slice none 0 0, .slice none 0 0, .slice none 0 0, .slice none 0 0, .string ⟨#[]⟩, .slice none 0 0, .slice none 0 0, .slice none 0 0, .slice none 0 0, .slice none 0 0, .int .i64 0, .int .i64 0] 29)).heap[W.heap.size + 2]? = some (.cells #[.slice none 0 0, .slice none 0 0, .slice none 0 0, .slice none 0 0, .string ⟨#[]⟩, .slice none 0 0, .slice none 0 0, .slice none 0 0, .slice none 0 0, .slice none 0 0, .int .i64 0, .int .i64 0] 29 (0, 0)) by have := heap_alloc_new AA (.cells #[.slice none 0 0, .slice none 0 0, .slice none 0 0, .slice none 0 0, .string ⟨#[]⟩, .slice none 0 0, .slice none 0 0, .slice none 0 0, .slice none 0 0, .slice none 0 0, .int .i64 0, .int .i64 0] 29); rw [hsA] at this; exact this)
  have HJ0 := Lib.hid ((Below.heap_alloc AA (.cells #[.slice none 0 0, .slice none 0 0, .slice none 0 0, .slice none 0 0, .string ⟨#[]⟩, .slice none 0 0, .slice none 0 0, .slice none 0 0, .slice none 0 0, .slice none 0 0, .int .i64 0, .int .i64 0] 29) _ (heap_lt hj0)).trans hj0)
  clear hj0 hq0 hbA hBs
  have hc := qtext_any Bs (W.heap.size + 1) ⟨0, false⟩ (AA.alloc (.cells #[.slice none 0 0, .slice none 0 0, .slice none 0 0, .slice none 0 0, .string ⟨#[]⟩, .slice none 0 0, .slice none 0 0, .slice none 0 0, .slice none 0 0, .slice none 0 0, .int .i64 0, .int .i64 0] 29)) HQ0.out
  obtain ⟨t0, ht0⟩ : ∃ r, (rText Bs ⟨0, false⟩).2 = r := ⟨_, rfl⟩
  rw [ht0] at hc
  obtain ⟨RT, hRT⟩ : ∃ RT, dImg.q Bs t0 = RT := ⟨_, rfl⟩
  have HRT := Lib.hid (show readDoc Bs = RT by rw [← hRT, ← ht0]; rfl)
  have HRQ := Lib.hid hRT
  clear ht0 hRT
  go_enter Tryz.func18, Tryz.ntmps18
  go_wp2_with (go_at_call 46; refine hc.mono ?_)
  rintro e S0 ⟨rfl, hr, hf⟩
  have HQ := Lib.hid hr
  have HF := Lib.hid (HF0.out.trans hf)
  have HD := Lib.hid ((hf.block _ (heap_lt HD0.out) (by omega)).trans HD0.out)
  have HJ := Lib.hid ((hf.block _ (heap_lt HJ0.out) (by omega)).trans HJ0.out)
  clear hc hr hf HQ0 HF0 HD0 HJ0 hAA
  have hc := qmany_any Bs (W.heap.size + 1) t0 S0 HQ.out
  have hcl := rCount_le Bs 1 t0
  obtain ⟨⟨cnt, u0⟩, hx⟩ : ∃ r, rCount Bs 1 t0 = r := ⟨_, rfl⟩
  rw [hx] at hc hcl
  simp only at hc hcl
  have HXM := Lib.hid hx
  obtain ⟨R, hres⟩ : ∃ R, qGo ((dList dText).q Bs) cnt [] u0 = R := ⟨_, rfl⟩
  have HRL := Lib.hid hres
  clear hx hres
  go_wp2_with (go_at_call 47; refine hc.mono ?_)
  rintro e PM ⟨rfl, hr, hf⟩
  have HQM := Lib.hid hr
  have HFM := Lib.hid (HF.out.trans hf)
  have HDM := Lib.hid ((hf.block _ (heap_lt HD.out) (by omega)).trans HD.out)
  have HJM := Lib.hid ((hf.block _ (heap_lt HJ.out) (by omega)).trans HJ.out)
  clear hc hr hf HQ HF HD HJ 
  go_upto_block 0 with fail
  go_cut [] from 22 to 40 (fun wx => ∃ (acc : List (List ByteArray)) (t : Rst) (v : Value), R = (acc, t) ∧ Lst (shSlice shStr) AA.heap.size 53 [9] wx v acc ∧ QAt wx (W.heap.size + 1) Bs t ∧ KFr (W.heap.size + 1) AA wx ∧ wx.heap[W.heap.size + 2]? = some (.cells #[v, .slice none 0 0, .slice none 0 0, .slice none 0 0, .string ⟨#[]⟩, .slice none 0 0, .slice none 0 0, .slice none 0 0, .slice none 0 0, .slice none 0 0, .int .i64 0, .int .i64 0] 29 (0, 0)) ∧ wx.heap[W.heap.size]? = some (.cells #[.slice none 0 0, .slice none 0 0, .slice none 0 0, .slice none 0 0, .string ⟨#[]⟩, .slice none 0 0, .slice none 0 0, .slice none 0 0, .slice none 0 0, .slice none 0 0, .int .i64 0, .int .i64 0] 29 (0, 0)))
  case first =>
    go_wp2_with fail
    go_loopw [7] (fun i wr => ∃ (k : Nat) (acc : List (List ByteArray)) (t : Rst) (v : Value), k ≤ cnt ∧ i = .int .i64 k ∧ acc.length = k ∧ Lst (shSlice shStr) AA.heap.size 53 [9] wr v acc ∧ QAt wr (W.heap.size + 1) Bs t ∧ KFr (W.heap.size + 1) AA wr ∧ qGo ((dList dText).q Bs) (cnt - k) acc t = R ∧ wr.heap[W.heap.size + 2]? = some (.cells #[v, .slice none 0 0, .slice none 0 0, .slice none 0 0, .string ⟨#[]⟩, .slice none 0 0, .slice none 0 0, .slice none 0 0, .slice none 0 0, .slice none 0 0, .int .i64 0, .int .i64 0] 29 (0, 0)) ∧ wr.heap[W.heap.size]? = some (.cells #[.slice none 0 0, .slice none 0 0, .slice none 0 0, .slice none 0 0, .string ⟨#[]⟩, .slice none 0 0, .slice none 0 0, .slice none 0 0, .slice none 0 0, .slice none 0 0, .int .i64 0, .int .i64 0] 29 (0, 0))) (fun i _ => cnt - (intOf i).toNat)
    case atStart => exact ⟨0, [], u0, .slice none 0 0, Nat.zero_le _, rfl, rfl, Lst.nil, HQM.out, HFM.out, by rw [Nat.sub_zero]; exact HRL.out, HDM.out, HJM.out⟩
    case round =>
      clear HQM HFM HDM HJM 
      obtain ⟨k, acc, t, v, hk, rfl, hal, hl, hr, hf, hgo, hd, hj⟩ := hrel
      obtain ⟨a99, n99, cap99, g0, g1, g2, g3, g4, -⟩ := hr.cells
      have HL := Lib.hid hl
      have HR := Lib.hid hr
      have HF := Lib.hid hf
      have HGO := Lib.hid hgo
      have HAL := Lib.hid hal
      have HD := Lib.hid hd
      have HJ := Lib.hid hj
      clear hl hr hf hgo g0 g1 g3 g4 hal hd hj 
      have hend : (k = cnt ∨ t.wrong = true) → R = (acc, t) := by
        rintro (rfl | hw)
        · have := HGO.out; rw [Nat.sub_self] at this; exact this.symm
        · rw [← HGO.out, qGo_bad hw]
      by_cases hlt : k < cnt
      · have i0 : (k : Int) < (cnt : Int) := by omega
        have hm : cnt - k = (cnt - (k + 1)) + 1 := by omega
        rw [hm] at HGO
        cases hw : t.wrong with
        | true =>
          rw [hw] at g2
          have HE := Lib.hid (hend (.inr hw))
          clear hend hw
          go_wp2_with fail
          go_meet
          exact ⟨acc, t, v, HE.out, HL.out, HR.out, HF.out, HD.out, HJ.out⟩
        | false =>
          rw [hw] at g2
          have HW := Lib.hid hw
          clear hw hend
          have f7 : ∀ w' : World, w'.heap[W.heap.size + 2]? = some (.cells #[v, .slice none 0 0, .slice none 0 0, .slice none 0 0, .string ⟨#[]⟩, .slice none 0 0, .slice none 0 0, .slice none 0 0, .slice none 0 0, .slice none 0 0, .int .i64 0, .int .i64 0] 29 (0, 0)) → w'.cell? ⟨W.heap.size + 2, 0, none⟩ = some v := fun w' h => by rw [Lib.cell_of_heap h]; rfl
          go_upto_region 8 with fail
          have hH := qd_texts Bs (W.heap.size + 1) t wr.drew (HR.out.kept (fun _ _ => rfl))
          obtain ⟨⟨y, t2⟩, hx⟩ : ∃ r, (dList dText).q Bs t = r := ⟨_, rfl⟩
          rw [hx] at hH
          simp only at hH
          have HX := Lib.hid hx
          clear hx
          have HS := Lib.hid (show wr.drew.heap[W.heap.size + 2]? = some (.cells #[v, .slice none 0 0, .slice none 0 0, .slice none 0 0, .string ⟨#[]⟩, .slice none 0 0, .slice none 0 0, .slice none 0 0, .slice none 0 0, .slice none 0 0, .int .i64 0, .int .i64 0] 29 (0, 0)) from HD.out)
          refine AnyK.start 5 (fun w' => w'.heap[W.heap.size + 2]? = some (.cells #[v, .slice none 0 0, .slice none 0 0, .slice none 0 0, .string ⟨#[]⟩, .slice none 0 0, .slice none 0 0, .slice none 0 0, .slice none 0 0, .slice none 0 0, .int .i64 0, .int .i64 0] 29 (0, 0))) rfl HS.out (fun _ => ?_)
          refine AnyK.take (oi := { dst := _, op := _, type := _, pos := _, after := _, guard := _ }) 0 ?_ rfl (by kernel_rfl) (fun _ _ _ h => h) (Or.inl ⟨by rfl, ?_⟩) HS.out ?_
          rotate_left
          · (intro w' hS; go_simp; with_reducible rfl)
          simp only [Act.put, List.setIfInBounds_toArray, List.set_cons_zero, List.set_cons_succ]
          refine AnyK.take (oi := { dst := _, op := _, type := _, pos := _, after := _, guard := _ }) 1 ?_ rfl (by kernel_rfl) (fun _ _ _ h => h) (Or.inl ⟨by rfl, ?_⟩) HS.out ?_
          rotate_left
          · (intro w' hS; have e0 := f7 w' hS; go_simp; with_reducible rfl)
          simp only [Act.put, List.setIfInBounds_toArray, List.set_cons_zero, List.set_cons_succ]
          refine AnyK.take (oi := { dst := _, op := _, type := _, pos := _, after := _, guard := _ }) 2 ?_ rfl (by kernel_rfl) (fun _ _ _ h => h) (Or.inl ⟨by rfl, ?_⟩) HS.out ?_
          rotate_left
          · (intro w' hS; go_simp; with_reducible rfl)
          simp only [Act.put, List.setIfInBounds_toArray, List.set_cons_zero, List.set_cons_succ]
          refine AnyK.one 3 (by kernel_rfl) rfl (fun KK hK => ?_)
          go_simp
          refine hH.mono ?_
          rintro e V1 ⟨vs, rfl, hI, hr2, hf2⟩
          have HI := Lib.hid hI
          have hS1 : V1.heap[W.heap.size + 2]? = some (.cells #[v, .slice none 0 0, .slice none 0 0, .slice none 0 0, .string ⟨#[]⟩, .slice none 0 0, .slice none 0 0, .slice none 0 0, .slice none 0 0, .slice none 0 0, .int .i64 0, .int .i64 0] 29 (0, 0)) := (hf2.block _ (heap_lt HS.out) (by omega)).trans HS.out
          have hJ1 : V1.heap[W.heap.size]? = some (.cells #[.slice none 0 0, .slice none 0 0, .slice none 0 0, .slice none 0 0, .string ⟨#[]⟩, .slice none 0 0, .slice none 0 0, .slice none 0 0, .slice none 0 0, .slice none 0 0, .int .i64 0, .int .i64 0] 29 (0, 0)) := (hf2.block _ (heap_lt (show wr.drew.heap[W.heap.size]? = _ from HJ.out)) (by omega)).trans HJ.out
          have hdr : KFr (W.heap.size + 1) wr wr.drew := ⟨rfl, rfl, rfl, Nat.le_refl _, fun _ _ _ => rfl⟩
          have HK1 := Lib.hid (hdr.trans hf2)
          clear hdr
          have HQ1 := Lib.hid hr2
          have hsw : wr.heap.size ≤ V1.heap.size := HK1.out.size
          have hsw2 : AA.heap.size ≤ wr.heap.size := HF.out.size
          obtain ⟨ya, yl, yc, rfl, -⟩ := slice_is.1 hI
          simp only [mk1, List.headD_cons]
          refine hK _ _ hS1 ?_
          clear hK hI hr2 hf2 hH
          refine AnyK.one 4 (by kernel_rfl) rfl (fun KK hK => ?_)
          go_simp
          have hS2 := (Below.heap_alloc V1 (.cells [.slice ya yl yc].toArray 53) _ (heap_lt hS1)).trans hS1
          have hJ2 := (Below.heap_alloc V1 (.cells [.slice ya yl yc].toArray 53) _ (heap_lt hJ1)).trans hJ1
          refine hK _ _ hS2 ?_
          clear hK
          obtain ⟨i00, hi, hz0, hz1, hz2⟩ := info_parts info_Faces
          obtain ⟨vss, hvl, hown, hIs⟩ := (HL.out.kfr HK1.out hblt).kp (Kp.alloc _ _ _ (.cells [.slice ya yl yc].toArray 53))
          have HXE := Lib.hid (is_step (is_wide HI.out (show AA.heap.size ≤ wr.drew.heap.size from hsw2) (fun _ h => h)) (Kp.alloc AA.heap.size [9] V1 (.cells [.slice ya yl yc].toArray 53)))
          have HVL := Lib.hid hvl
          have HO2 := Lib.hid (HAL.out ▸ hown)
          have HOW := Lib.hid hown
          have HIS := Lib.hid hIs
          have HS2 := Lib.hid hS2
          have HJ2 := Lib.hid hJ2
          clear hown hIs hvl hS1 hS2 hJ1 hJ2 f7
          refine AnyK.late 5 (by kernel_rfl) (by kernel_rfl) rfl (fun KK hK => ?_)
          rw [if_pos (by rfl)]
          refine wp_append_own _ (.tmp 35) (.tmp 38) 22 rfl AA.heap.size 53 i00 (.slice none 0 0) 1 24 Tryz.underlying22 hi hz0 hz1 hz2 rfl (by decide) v k vss.flatten rfl HO2.out ⟨V1.heap.size, 0, none⟩ 1 1 [.slice ya yl yc] rfl rfl ?c1 ?c2 ?c3 ?c4 ?c5 ?_
          case c1 => exact lit_cells V1 [.slice ya yl yc].toArray 53
          case c2 => intro u hu; simp only [List.mem_cons, List.not_mem_nil, or_false] at hu; rcases hu with rfl <;> rfl
          case c3 => unfold maxLen; omega
          case c4 => omega
          case c5 => simp; omega
          intro v1 W3 hown1 hgrow1 _
          obtain ⟨q1, q2, rfl⟩ := Joins.ownsRow_form hown1 (by omega)
          have HL3 := Lib.hid (Lst.push HVL.out HOW.out HIS.out HXE.out hgrow1 (by rw [HAL.out]; exact hown1) (by decide))
          have HF3 := Lib.hid (((HF.out.trans HK1.out).alloc (.cells [.slice ya yl yc].toArray 53)).grown hgrow1 HO2.out)
          have HR3 := Lib.hid ((HQ1.out.alloc (.cells [.slice ya yl yc].toArray 53)).grown hblt hgrow1 HO2.out)
          have hd3 := grown_keep hgrow1 HO2.out HS2.out (by decide)
          have hj3 := grown_keep hgrow1 HO2.out HJ2.out (by decide)
          have e6 : W3.cell? ⟨W.heap.size + 2, 0, none⟩ = some v := by rw [Lib.cell_of_heap hd3]; rfl
          have f6 := Lib.frozen_of_heap hd3 0
          have HD4 := Lib.hid (show (W3.setCell ⟨W.heap.size + 2, 0, none⟩ (.slice (some ⟨q1, 0, none⟩) (k + 1) q2)).heap[W.heap.size + 2]? = some (.cells #[.slice (some ⟨q1, 0, none⟩) (k + 1) q2, .slice none 0 0, .slice none 0 0, .slice none 0 0, .string ⟨#[]⟩, .slice none 0 0, .slice none 0 0, .slice none 0 0, .slice none 0 0, .slice none 0 0, .int .i64 0, .int .i64 0] 29 (0, 0)) from heap_set (j := 0) (.slice (some ⟨q1, 0, none⟩) (k + 1) q2) hd3)
          have HJ4 := Lib.hid ((setCell_rest W3 ⟨W.heap.size + 2, 0, none⟩ (.slice (some ⟨q1, 0, none⟩) (k + 1) q2) W.heap.size (by simp)).trans hj3)
          have HL4 := Lib.hid (HL3.out.kp (Kp.set (o := 0) hd3 (by decide) (.slice (some ⟨q1, 0, none⟩) (k + 1) q2)) : Lst _ _ _ _ (W3.setCell ⟨W.heap.size + 2, 0, none⟩ (.slice (some ⟨q1, 0, none⟩) (k + 1) q2)) _ _)
          have HF4 := Lib.hid (HF3.out.set (p := ⟨W.heap.size + 2, 0, none⟩) (.inr (by show _ ≤ W.heap.size + 2; omega)) (.slice (some ⟨q1, 0, none⟩) (k + 1) q2))
          have HR4 := Lib.hid (HR3.out.set (q := W.heap.size + 2) (o := 0) (by omega) (.slice (some ⟨q1, 0, none⟩) (k + 1) q2))
          clear hown1 hgrow1 hd3 hj3 HS2 HJ2
          refine hK _ _ ?_
          clear hK
          refine AnyK.late 6 (by kernel_rfl) (by kernel_rfl) rfl (fun KK hK => ?_)
          go_simp
          refine hK _ _ ?_
          clear hK
          refine AnyK.late 7 (by kernel_rfl) (by kernel_rfl) rfl (fun KK hK => ?_)
          go_simp
          refine hK _ _ ?_
          clear hK
          refine AnyK.done (by kernel_rfl) ?_ _
          go_wp2_with fail
          refine ⟨⟨k + 1, _, t2, _, by omega, by go_num, by simp [HAL.out], HL4.out, HR4.out, HF4.out, ?_, HD4.out, HJ4.out⟩, by simp [intOf]; omega⟩
          have hg := HGO.out
          rw [qGo_one HW.out, HX.out] at hg
          exact hg
      · obtain rfl : cnt = k := by omega
        have HE := Lib.hid (hend (.inl rfl))
        clear hend
        go_wp2_with fail
        go_meet
        exact ⟨acc, t, v, HE.out, HL.out, HR.out, HF.out, HD.out, HJ.out⟩
  case rest =>
    clear HQM HFM HDM HJM 
    obtain ⟨x0, t1, v, hE, hl, hr, hf, hd, hj⟩ := hcut
    obtain ⟨a0, c0, rfl⟩ := hl.form
    obtain ⟨l0, hlen0⟩ : ∃ l, x0.length = l := ⟨_, rfl⟩
    rw [hlen0] at hl hd
    have HX0 := Lib.hid (show (dList (dList dText)).q Bs t0 = (x0, t1) from many_q HXM.out (HRL.out.trans hE))
    have HW0 := Lib.hid (hl.row hlen0.symm)
    have HQ := Lib.hid hr
    have HF := Lib.hid hf
    have HD := Lib.hid hd
    have HJ := Lib.hid hj
    clear hE hl hr hf hd hj hlen0 HXM HRL hcl 
    generalize wc = S1 at *
    have hc := qmany_any Bs (W.heap.size + 1) t1 S1 HQ.out
    have hcl := rCount_le Bs 1 t1
    obtain ⟨⟨cnt, u0⟩, hx⟩ : ∃ r, rCount Bs 1 t1 = r := ⟨_, rfl⟩
    rw [hx] at hc hcl
    simp only at hc hcl
    have HXM := Lib.hid hx
    obtain ⟨R, hres⟩ : ∃ R, qGo (dDesc.q Bs) cnt [] u0 = R := ⟨_, rfl⟩
    have HRL := Lib.hid hres
    clear hx hres
    go_wp2_with (go_at_call 47; refine hc.mono ?_)
    rintro e PM ⟨rfl, hr, hf⟩
    have HQM := Lib.hid hr
    have HFM := Lib.hid (HF.out.trans hf)
    have HDM := Lib.hid ((hf.block _ (heap_lt HD.out) (by omega)).trans HD.out)
    have HJM := Lib.hid ((hf.block _ (heap_lt HJ.out) (by omega)).trans HJ.out)
    have HM0 := Lib.hid (row_step HW0.out (Kp.of hf hblt) (Nat.le_refl _) (fun _ h => h))
    clear hc hr hf HQ HF HD HJ HW0
    go_upto_block 2 with fail
    go_cut [] from 43 to 61 (fun wx => ∃ (acc : List DescD) (t : Rst) (v : Value), R = (acc, t) ∧ Lst shDesc AA.heap.size 56 [58, 3, 9] wx v acc ∧ QAt wx (W.heap.size + 1) Bs t ∧ KFr (W.heap.size + 1) AA wx ∧ wx.heap[W.heap.size + 2]? = some (.cells #[.slice a0 l0 c0, v, .slice none 0 0, .slice none 0 0, .string ⟨#[]⟩, .slice none 0 0, .slice none 0 0, .slice none 0 0, .slice none 0 0, .slice none 0 0, .int .i64 0, .int .i64 0] 29 (0, 0)) ∧ wx.heap[W.heap.size]? = some (.cells #[.slice none 0 0, .slice none 0 0, .slice none 0 0, .slice none 0 0, .string ⟨#[]⟩, .slice none 0 0, .slice none 0 0, .slice none 0 0, .slice none 0 0, .slice none 0 0, .int .i64 0, .int .i64 0] 29 (0, 0)) ∧ Row (shSlice shStr) (SB AA.heap.size [53, 9] wx) wx a0 l0 x0)
    case first =>
      go_wp2_with fail
      go_loopw [8] (fun i wr => ∃ (k : Nat) (acc : List DescD) (t : Rst) (v : Value), k ≤ cnt ∧ i = .int .i64 k ∧ acc.length = k ∧ Lst shDesc AA.heap.size 56 [58, 3, 9] wr v acc ∧ QAt wr (W.heap.size + 1) Bs t ∧ KFr (W.heap.size + 1) AA wr ∧ qGo (dDesc.q Bs) (cnt - k) acc t = R ∧ wr.heap[W.heap.size + 2]? = some (.cells #[.slice a0 l0 c0, v, .slice none 0 0, .slice none 0 0, .string ⟨#[]⟩, .slice none 0 0, .slice none 0 0, .slice none 0 0, .slice none 0 0, .slice none 0 0, .int .i64 0, .int .i64 0] 29 (0, 0)) ∧ wr.heap[W.heap.size]? = some (.cells #[.slice none 0 0, .slice none 0 0, .slice none 0 0, .slice none 0 0, .string ⟨#[]⟩, .slice none 0 0, .slice none 0 0, .slice none 0 0, .slice none 0 0, .slice none 0 0, .int .i64 0, .int .i64 0] 29 (0, 0)) ∧ Row (shSlice shStr) (SB AA.heap.size [53, 9] wr) wr a0 l0 x0) (fun i _ => cnt - (intOf i).toNat)
      case atStart => exact ⟨0, [], u0, .slice none 0 0, Nat.zero_le _, rfl, rfl, Lst.nil, HQM.out, HFM.out, by rw [Nat.sub_zero]; exact HRL.out, HDM.out, HJM.out, HM0.out⟩
      case round =>
        clear HQM HFM HDM HJM HM0
        obtain ⟨k, acc, t, v, hk, rfl, hal, hl, hr, hf, hgo, hd, hj, hw0⟩ := hrel
        obtain ⟨a99, n99, cap99, g0, g1, g2, g3, g4, -⟩ := hr.cells
        have HL := Lib.hid hl
        have HR := Lib.hid hr
        have HF := Lib.hid hf
        have HGO := Lib.hid hgo
        have HAL := Lib.hid hal
        have HD := Lib.hid hd
        have HJ := Lib.hid hj
        have HW0 := Lib.hid hw0
        clear hl hr hf hgo g0 g1 g3 g4 hal hd hj hw0
        have hend : (k = cnt ∨ t.wrong = true) → R = (acc, t) := by
          rintro (rfl | hw)
          · have := HGO.out; rw [Nat.sub_self] at this; exact this.symm
          · rw [← HGO.out, qGo_bad hw]
        by_cases hlt : k < cnt
        · have i0 : (k : Int) < (cnt : Int) := by omega
          have hm : cnt - k = (cnt - (k + 1)) + 1 := by omega
          rw [hm] at HGO
          cases hw : t.wrong with
          | true =>
            rw [hw] at g2
            have HE := Lib.hid (hend (.inr hw))
            clear hend hw
            go_wp2_with fail
            go_meet
            exact ⟨acc, t, v, HE.out, HL.out, HR.out, HF.out, HD.out, HJ.out, HW0.out⟩
          | false =>
            rw [hw] at g2
            have HW := Lib.hid hw
            clear hw hend
            have f7 : ∀ w' : World, w'.heap[W.heap.size + 2]? = some (.cells #[.slice a0 l0 c0, v, .slice none 0 0, .slice none 0 0, .string ⟨#[]⟩, .slice none 0 0, .slice none 0 0, .slice none 0 0, .slice none 0 0, .slice none 0 0, .int .i64 0, .int .i64 0] 29 (0, 0)) → w'.cell? ⟨W.heap.size + 2, 1, none⟩ = some v := fun w' h => by rw [Lib.cell_of_heap h]; rfl
            go_upto_region 13 with fail
            have hH := qd_desc Bs (W.heap.size + 1) t wr.drew (HR.out.kept (fun _ _ => rfl))
            obtain ⟨⟨y, t2⟩, hx⟩ : ∃ r, dDesc.q Bs t = r := ⟨_, rfl⟩
            rw [hx] at hH
            simp only at hH
            have HX := Lib.hid hx
            clear hx
            have HS := Lib.hid (show wr.drew.heap[W.heap.size + 2]? = some (.cells #[.slice a0 l0 c0, v, .slice none 0 0, .slice none 0 0, .string ⟨#[]⟩, .slice none 0 0, .slice none 0 0, .slice none 0 0, .slice none 0 0, .slice none 0 0, .int .i64 0, .int .i64 0] 29 (0, 0)) from HD.out)
            refine AnyK.start 5 (fun w' => w'.heap[W.heap.size + 2]? = some (.cells #[.slice a0 l0 c0, v, .slice none 0 0, .slice none 0 0, .string ⟨#[]⟩, .slice none 0 0, .slice none 0 0, .slice none 0 0, .slice none 0 0, .slice none 0 0, .int .i64 0, .int .i64 0] 29 (0, 0))) rfl HS.out (fun _ => ?_)
            refine AnyK.take (oi := { dst := _, op := _, type := _, pos := _, after := _, guard := _ }) 0 ?_ rfl (by kernel_rfl) (fun _ _ _ h => h) (Or.inl ⟨by rfl, ?_⟩) HS.out ?_
            rotate_left
            · (intro w' hS; go_simp; with_reducible rfl)
            simp only [Act.put, List.setIfInBounds_toArray, List.set_cons_zero, List.set_cons_succ]
            refine AnyK.take (oi := { dst := _, op := _, type := _, pos := _, after := _, guard := _ }) 1 ?_ rfl (by kernel_rfl) (fun _ _ _ h => h) (Or.inl ⟨by rfl, ?_⟩) HS.out ?_
            rotate_left
            · (intro w' hS; have e0 := f7 w' hS; go_simp; with_reducible rfl)
            simp only [Act.put, List.setIfInBounds_toArray, List.set_cons_zero, List.set_cons_succ]
            refine AnyK.take (oi := { dst := _, op := _, type := _, pos := _, after := _, guard := _ }) 2 ?_ rfl (by kernel_rfl) (fun _ _ _ h => h) (Or.inl ⟨by rfl, ?_⟩) HS.out ?_
            rotate_left
            · (intro w' hS; go_simp; with_reducible rfl)
            simp only [Act.put, List.setIfInBounds_toArray, List.set_cons_zero, List.set_cons_succ]
            refine AnyK.one 3 (by kernel_rfl) rfl (fun KK hK => ?_)
            go_simp
            refine hH.mono ?_
            rintro e V1 ⟨vs, rfl, hI, hr2, hf2⟩
            have HI := Lib.hid hI
            have hS1 : V1.heap[W.heap.size + 2]? = some (.cells #[.slice a0 l0 c0, v, .slice none 0 0, .slice none 0 0, .string ⟨#[]⟩, .slice none 0 0, .slice none 0 0, .slice none 0 0, .slice none 0 0, .slice none 0 0, .int .i64 0, .int .i64 0] 29 (0, 0)) := (hf2.block _ (heap_lt HS.out) (by omega)).trans HS.out
            have hJ1 : V1.heap[W.heap.size]? = some (.cells #[.slice none 0 0, .slice none 0 0, .slice none 0 0, .slice none 0 0, .string ⟨#[]⟩, .slice none 0 0, .slice none 0 0, .slice none 0 0, .slice none 0 0, .slice none 0 0, .int .i64 0, .int .i64 0] 29 (0, 0)) := (hf2.block _ (heap_lt (show wr.drew.heap[W.heap.size]? = _ from HJ.out)) (by omega)).trans HJ.out
            have hdr : KFr (W.heap.size + 1) wr wr.drew := ⟨rfl, rfl, rfl, Nat.le_refl _, fun _ _ _ => rfl⟩
            have HK1 := Lib.hid (hdr.trans hf2)
            clear hdr
            have HQ1 := Lib.hid hr2
            have hsw : wr.heap.size ≤ V1.heap.size := HK1.out.size
            have hsw2 : AA.heap.size ≤ wr.heap.size := HF.out.size
            obtain ⟨za2, zl2, zc2, za3, zl3, zc3, za4, zl4, zc4, za5, zl5, zc5, rfl, -⟩ := desc_is.1 hI
            simp only [mkA]
            refine hK _ _ hS1 ?_
            clear hK hI hr2 hf2 hH
            refine AnyK.one 4 (by kernel_rfl) rfl (fun KK hK => ?_)
            go_simp
            have hS2 := (Below.heap_alloc V1 (.cells [.int .i64 y.base, .string y.fields, .slice za2 zl2 zc2, .slice za3 zl3 zc3, .slice za4 zl4 zc4, .slice za5 zl5 zc5].toArray 56) _ (heap_lt hS1)).trans hS1
            have hJ2 := (Below.heap_alloc V1 (.cells [.int .i64 y.base, .string y.fields, .slice za2 zl2 zc2, .slice za3 zl3 zc3, .slice za4 zl4 zc4, .slice za5 zl5 zc5].toArray 56) _ (heap_lt hJ1)).trans hJ1
            refine hK _ _ hS2 ?_
            clear hK
            obtain ⟨i00, hi, hz0, hz1, hz2⟩ := info_parts info_Descs
            obtain ⟨vss, hvl, hown, hIs⟩ := (HL.out.kfr HK1.out hblt).kp (Kp.alloc _ _ _ (.cells [.int .i64 y.base, .string y.fields, .slice za2 zl2 zc2, .slice za3 zl3 zc3, .slice za4 zl4 zc4, .slice za5 zl5 zc5].toArray 56))
            have HXE := Lib.hid (is_step (is_wide HI.out (show AA.heap.size ≤ wr.drew.heap.size from hsw2) (fun _ h => h)) (Kp.alloc AA.heap.size [58, 3, 9] V1 (.cells [.int .i64 y.base, .string y.fields, .slice za2 zl2 zc2, .slice za3 zl3 zc3, .slice za4 zl4 zc4, .slice za5 zl5 zc5].toArray 56)))
            have HVL := Lib.hid hvl
            have HO2 := Lib.hid (HAL.out ▸ hown)
            have HOW := Lib.hid hown
            have HIS := Lib.hid hIs
            have HS2 := Lib.hid hS2
            have HJ2 := Lib.hid hJ2
            clear hown hIs hvl hS1 hS2 hJ1 hJ2 f7
            refine AnyK.late 5 (by kernel_rfl) (by kernel_rfl) rfl (fun KK hK => ?_)
            rw [if_pos (by rfl)]
            refine wp_append_own _ (.tmp 56) (.tmp 59) 23 rfl AA.heap.size 56 i00 (.agg #[.int .i64 0, .string ⟨#[]⟩, .slice none 0 0, .slice none 0 0, .slice none 0 0, .slice none 0 0]) 6 120 Tryz.underlying23 hi hz0 hz1 hz2 rfl (by decide) v k vss.flatten rfl HO2.out ⟨V1.heap.size, 0, none⟩ 1 1 [.int .i64 y.base, .string y.fields, .slice za2 zl2 zc2, .slice za3 zl3 zc3, .slice za4 zl4 zc4, .slice za5 zl5 zc5] rfl rfl ?c1 ?c2 ?c3 ?c4 ?c5 ?_
            case c1 => exact lit_cells V1 [.int .i64 y.base, .string y.fields, .slice za2 zl2 zc2, .slice za3 zl3 zc3, .slice za4 zl4 zc4, .slice za5 zl5 zc5].toArray 56
            case c2 => intro u hu; simp only [List.mem_cons, List.not_mem_nil, or_false] at hu; rcases hu with rfl | rfl | rfl | rfl | rfl | rfl <;> rfl
            case c3 => unfold maxLen; omega
            case c4 => omega
            case c5 => simp; omega
            intro v1 W3 hown1 hgrow1 _
            obtain ⟨q1, q2, rfl⟩ := Joins.ownsRow_form hown1 (by omega)
            have HL3 := Lib.hid (Lst.push HVL.out HOW.out HIS.out HXE.out hgrow1 (by rw [HAL.out]; exact hown1) (by decide))
            have HF3 := Lib.hid (((HF.out.trans HK1.out).alloc (.cells [.int .i64 y.base, .string y.fields, .slice za2 zl2 zc2, .slice za3 zl3 zc3, .slice za4 zl4 zc4, .slice za5 zl5 zc5].toArray 56)).grown hgrow1 HO2.out)
            have HR3 := Lib.hid ((HQ1.out.alloc (.cells [.int .i64 y.base, .string y.fields, .slice za2 zl2 zc2, .slice za3 zl3 zc3, .slice za4 zl4 zc4, .slice za5 zl5 zc5].toArray 56)).grown hblt hgrow1 HO2.out)
            have hd3 := grown_keep hgrow1 HO2.out HS2.out (by decide)
            have hj3 := grown_keep hgrow1 HO2.out HJ2.out (by decide)
            have e6 : W3.cell? ⟨W.heap.size + 2, 1, none⟩ = some v := by rw [Lib.cell_of_heap hd3]; rfl
            have f6 := Lib.frozen_of_heap hd3 1
            have HD4 := Lib.hid (show (W3.setCell ⟨W.heap.size + 2, 1, none⟩ (.slice (some ⟨q1, 0, none⟩) (k + 1) q2)).heap[W.heap.size + 2]? = some (.cells #[.slice a0 l0 c0, .slice (some ⟨q1, 0, none⟩) (k + 1) q2, .slice none 0 0, .slice none 0 0, .string ⟨#[]⟩, .slice none 0 0, .slice none 0 0, .slice none 0 0, .slice none 0 0, .slice none 0 0, .int .i64 0, .int .i64 0] 29 (0, 0)) from heap_set (j := 1) (.slice (some ⟨q1, 0, none⟩) (k + 1) q2) hd3)
            have HJ4 := Lib.hid ((setCell_rest W3 ⟨W.heap.size + 2, 1, none⟩ (.slice (some ⟨q1, 0, none⟩) (k + 1) q2) W.heap.size (by simp)).trans hj3)
            have HL4 := Lib.hid (HL3.out.kp (Kp.set (o := 1) hd3 (by decide) (.slice (some ⟨q1, 0, none⟩) (k + 1) q2)) : Lst _ _ _ _ (W3.setCell ⟨W.heap.size + 2, 1, none⟩ (.slice (some ⟨q1, 0, none⟩) (k + 1) q2)) _ _)
            have HF4 := Lib.hid (HF3.out.set (p := ⟨W.heap.size + 2, 1, none⟩) (.inr (by show _ ≤ W.heap.size + 2; omega)) (.slice (some ⟨q1, 0, none⟩) (k + 1) q2))
            have HR4 := Lib.hid (HR3.out.set (q := W.heap.size + 2) (o := 1) (by omega) (.slice (some ⟨q1, 0, none⟩) (k + 1) q2))
            have hkp : Kp AA.heap.size [9, 53] wr (W3.setCell ⟨W.heap.size + 2, 1, none⟩ (.slice (some ⟨q1, 0, none⟩) (k + 1) q2)) := (((Kp.of HK1.out hblt).trans (Kp.alloc _ _ _ (.cells [.int .i64 y.base, .string y.fields, .slice za2 zl2 zc2, .slice za3 zl3 zc3, .slice za4 zl4 zc4, .slice za5 zl5 zc5].toArray 56))).trans (Kp.grown hgrow1 HO2.out (by decide))).trans (Kp.set (o := 1) hd3 (by decide) _)
            have HV0 := Lib.hid (row_step HW0.out (hkp.sub (by decide)) (Nat.le_refl _) (fun _ h => h))
            clear hkp
            clear hown1 hgrow1 hd3 hj3 HS2 HJ2
            refine hK _ _ ?_
            clear hK
            refine AnyK.late 6 (by kernel_rfl) (by kernel_rfl) rfl (fun KK hK => ?_)
            go_simp
            refine hK _ _ ?_
            clear hK
            refine AnyK.late 7 (by kernel_rfl) (by kernel_rfl) rfl (fun KK hK => ?_)
            go_simp
            refine hK _ _ ?_
            clear hK
            refine AnyK.done (by kernel_rfl) ?_ _
            go_wp2_with fail
            refine ⟨⟨k + 1, _, t2, _, by omega, by go_num, by simp [HAL.out], HL4.out, HR4.out, HF4.out, ?_, HD4.out, HJ4.out, HV0.out⟩, by simp [intOf]; omega⟩
            have hg := HGO.out
            rw [qGo_one HW.out, HX.out] at hg
            exact hg
        · obtain rfl : cnt = k := by omega
          have HE := Lib.hid (hend (.inl rfl))
          clear hend
          go_wp2_with fail
          go_meet
          exact ⟨acc, t, v, HE.out, HL.out, HR.out, HF.out, HD.out, HJ.out, HW0.out⟩
    case rest =>
      clear HQM HFM HDM HJM HM0
      obtain ⟨x1, t2, v, hE, hl, hr, hf, hd, hj, hw0⟩ := hcut
      obtain ⟨a1, c1, rfl⟩ := hl.form
      obtain ⟨l1, hlen1⟩ : ∃ l, x1.length = l := ⟨_, rfl⟩
      rw [hlen1] at hl hd
      have HX1 := Lib.hid (show (dList dDesc).q Bs t1 = (x1, t2) from many_q HXM.out (HRL.out.trans hE))
      have HW1 := Lib.hid (hl.row hlen1.symm)
      have HQ := Lib.hid hr
      have HF := Lib.hid hf
      have HD := Lib.hid hd
      have HJ := Lib.hid hj
      have HW0 := Lib.hid hw0
      clear hE hl hr hf hd hj hlen1 HXM HRL hcl hw0
      generalize wc = S2 at *
      have hc := qmany_any Bs (W.heap.size + 1) t2 S2 HQ.out
      have hcl := rCount_le Bs 1 t2
      obtain ⟨⟨cnt, u0⟩, hx⟩ : ∃ r, rCount Bs 1 t2 = r := ⟨_, rfl⟩
      rw [hx] at hc hcl
      simp only at hc hcl
      have HXM := Lib.hid hx
      obtain ⟨R, hres⟩ : ∃ R, qGo (dCode.q Bs) cnt [] u0 = R := ⟨_, rfl⟩
      have HRL := Lib.hid hres
      clear hx hres
      go_wp2_with (go_at_call 47; refine hc.mono ?_)
      rintro e PM ⟨rfl, hr, hf⟩
      have HQM := Lib.hid hr
      have HFM := Lib.hid (HF.out.trans hf)
      have HDM := Lib.hid ((hf.block _ (heap_lt HD.out) (by omega)).trans HD.out)
      have HJM := Lib.hid ((hf.block _ (heap_lt HJ.out) (by omega)).trans HJ.out)
      have HM0 := Lib.hid (row_step HW0.out (Kp.of hf hblt) (Nat.le_refl _) (fun _ h => h))
      have HM1 := Lib.hid (row_step HW1.out (Kp.of hf hblt) (Nat.le_refl _) (fun _ h => h))
      clear hc hr hf HQ HF HD HJ HW0 HW1
      go_upto_block 4 with fail
      go_cut [] from 64 to 82 (fun wx => ∃ (acc : List CodeD) (t : Rst) (v : Value), R = (acc, t) ∧ Lst shCode AA.heap.size 61 [127] wx v acc ∧ QAt wx (W.heap.size + 1) Bs t ∧ KFr (W.heap.size + 1) AA wx ∧ wx.heap[W.heap.size + 2]? = some (.cells #[.slice a0 l0 c0, .slice a1 l1 c1, v, .slice none 0 0, .string ⟨#[]⟩, .slice none 0 0, .slice none 0 0, .slice none 0 0, .slice none 0 0, .slice none 0 0, .int .i64 0, .int .i64 0] 29 (0, 0)) ∧ wx.heap[W.heap.size]? = some (.cells #[.slice none 0 0, .slice none 0 0, .slice none 0 0, .slice none 0 0, .string ⟨#[]⟩, .slice none 0 0, .slice none 0 0, .slice none 0 0, .slice none 0 0, .slice none 0 0, .int .i64 0, .int .i64 0] 29 (0, 0)) ∧ Row (shSlice shStr) (SB AA.heap.size [53, 9] wx) wx a0 l0 x0 ∧ Row shDesc (SB AA.heap.size [56, 58, 3, 9] wx) wx a1 l1 x1)
      case first =>
        go_wp2_with fail
        go_loopw [9] (fun i wr => ∃ (k : Nat) (acc : List CodeD) (t : Rst) (v : Value), k ≤ cnt ∧ i = .int .i64 k ∧ acc.length = k ∧ Lst shCode AA.heap.size 61 [127] wr v acc ∧ QAt wr (W.heap.size + 1) Bs t ∧ KFr (W.heap.size + 1) AA wr ∧ qGo (dCode.q Bs) (cnt - k) acc t = R ∧ wr.heap[W.heap.size + 2]? = some (.cells #[.slice a0 l0 c0, .slice a1 l1 c1, v, .slice none 0 0, .string ⟨#[]⟩, .slice none 0 0, .slice none 0 0, .slice none 0 0, .slice none 0 0, .slice none 0 0, .int .i64 0, .int .i64 0] 29 (0, 0)) ∧ wr.heap[W.heap.size]? = some (.cells #[.slice none 0 0, .slice none 0 0, .slice none 0 0, .slice none 0 0, .string ⟨#[]⟩, .slice none 0 0, .slice none 0 0, .slice none 0 0, .slice none 0 0, .slice none 0 0, .int .i64 0, .int .i64 0] 29 (0, 0)) ∧ Row (shSlice shStr) (SB AA.heap.size [53, 9] wr) wr a0 l0 x0 ∧ Row shDesc (SB AA.heap.size [56, 58, 3, 9] wr) wr a1 l1 x1) (fun i _ => cnt - (intOf i).toNat)
        case atStart => exact ⟨0, [], u0, .slice none 0 0, Nat.zero_le _, rfl, rfl, Lst.nil, HQM.out, HFM.out, by rw [Nat.sub_zero]; exact HRL.out, HDM.out, HJM.out, HM0.out, HM1.out⟩
        case round =>
          clear HQM HFM HDM HJM HM0 HM1
          obtain ⟨k, acc, t, v, hk, rfl, hal, hl, hr, hf, hgo, hd, hj, hw0, hw1⟩ := hrel
          obtain ⟨a99, n99, cap99, g0, g1, g2, g3, g4, -⟩ := hr.cells
          have HL := Lib.hid hl
          have HR := Lib.hid hr
          have HF := Lib.hid hf
          have HGO := Lib.hid hgo
          have HAL := Lib.hid hal
          have HD := Lib.hid hd
          have HJ := Lib.hid hj
          have HW0 := Lib.hid hw0
          have HW1 := Lib.hid hw1
          clear hl hr hf hgo g0 g1 g3 g4 hal hd hj hw0 hw1
          have hend : (k = cnt ∨ t.wrong = true) → R = (acc, t) := by
            rintro (rfl | hw)
            · have := HGO.out; rw [Nat.sub_self] at this; exact this.symm
            · rw [← HGO.out, qGo_bad hw]
          by_cases hlt : k < cnt
          · have i0 : (k : Int) < (cnt : Int) := by omega
            have hm : cnt - k = (cnt - (k + 1)) + 1 := by omega
            rw [hm] at HGO
            cases hw : t.wrong with
            | true =>
              rw [hw] at g2
              have HE := Lib.hid (hend (.inr hw))
              clear hend hw
              go_wp2_with fail
              go_meet
              exact ⟨acc, t, v, HE.out, HL.out, HR.out, HF.out, HD.out, HJ.out, HW0.out, HW1.out⟩
            | false =>
              rw [hw] at g2
              have HW := Lib.hid hw
              clear hw hend
              have f7 : ∀ w' : World, w'.heap[W.heap.size + 2]? = some (.cells #[.slice a0 l0 c0, .slice a1 l1 c1, v, .slice none 0 0, .string ⟨#[]⟩, .slice none 0 0, .slice none 0 0, .slice none 0 0, .slice none 0 0, .slice none 0 0, .int .i64 0, .int .i64 0] 29 (0, 0)) → w'.cell? ⟨W.heap.size + 2, 2, none⟩ = some v := fun w' h => by rw [Lib.cell_of_heap h]; rfl
              go_upto_region 18 with fail
              have hH := qd_code Bs (W.heap.size + 1) t wr.drew (HR.out.kept (fun _ _ => rfl))
              obtain ⟨⟨y, t2⟩, hx⟩ : ∃ r, dCode.q Bs t = r := ⟨_, rfl⟩
              rw [hx] at hH
              simp only at hH
              have HX := Lib.hid hx
              clear hx
              have HS := Lib.hid (show wr.drew.heap[W.heap.size + 2]? = some (.cells #[.slice a0 l0 c0, .slice a1 l1 c1, v, .slice none 0 0, .string ⟨#[]⟩, .slice none 0 0, .slice none 0 0, .slice none 0 0, .slice none 0 0, .slice none 0 0, .int .i64 0, .int .i64 0] 29 (0, 0)) from HD.out)
              refine AnyK.start 5 (fun w' => w'.heap[W.heap.size + 2]? = some (.cells #[.slice a0 l0 c0, .slice a1 l1 c1, v, .slice none 0 0, .string ⟨#[]⟩, .slice none 0 0, .slice none 0 0, .slice none 0 0, .slice none 0 0, .slice none 0 0, .int .i64 0, .int .i64 0] 29 (0, 0))) rfl HS.out (fun _ => ?_)
              refine AnyK.take (oi := { dst := _, op := _, type := _, pos := _, after := _, guard := _ }) 0 ?_ rfl (by kernel_rfl) (fun _ _ _ h => h) (Or.inl ⟨by rfl, ?_⟩) HS.out ?_
              rotate_left
              · (intro w' hS; go_simp; with_reducible rfl)
              simp only [Act.put, List.setIfInBounds_toArray, List.set_cons_zero, List.set_cons_succ]
              refine AnyK.take (oi := { dst := _, op := _, type := _, pos := _, after := _, guard := _ }) 1 ?_ rfl (by kernel_rfl) (fun _ _ _ h => h) (Or.inl ⟨by rfl, ?_⟩) HS.out ?_
              rotate_left
              · (intro w' hS; have e0 := f7 w' hS; go_simp; with_reducible rfl)
              simp only [Act.put, List.setIfInBounds_toArray, List.set_cons_zero, List.set_cons_succ]
              refine AnyK.take (oi := { dst := _, op := _, type := _, pos := _, after := _, guard := _ }) 2 ?_ rfl (by kernel_rfl) (fun _ _ _ h => h) (Or.inl ⟨by rfl, ?_⟩) HS.out ?_
              rotate_left
              · (intro w' hS; go_simp; with_reducible rfl)
              simp only [Act.put, List.setIfInBounds_toArray, List.set_cons_zero, List.set_cons_succ]
              refine AnyK.one 3 (by kernel_rfl) rfl (fun KK hK => ?_)
              go_simp
              refine hH.mono ?_
              rintro e V1 ⟨vs, rfl, hI, hr2, hf2⟩
              have HI := Lib.hid hI
              have hS1 : V1.heap[W.heap.size + 2]? = some (.cells #[.slice a0 l0 c0, .slice a1 l1 c1, v, .slice none 0 0, .string ⟨#[]⟩, .slice none 0 0, .slice none 0 0, .slice none 0 0, .slice none 0 0, .slice none 0 0, .int .i64 0, .int .i64 0] 29 (0, 0)) := (hf2.block _ (heap_lt HS.out) (by omega)).trans HS.out
              have hJ1 : V1.heap[W.heap.size]? = some (.cells #[.slice none 0 0, .slice none 0 0, .slice none 0 0, .slice none 0 0, .string ⟨#[]⟩, .slice none 0 0, .slice none 0 0, .slice none 0 0, .slice none 0 0, .slice none 0 0, .int .i64 0, .int .i64 0] 29 (0, 0)) := (hf2.block _ (heap_lt (show wr.drew.heap[W.heap.size]? = _ from HJ.out)) (by omega)).trans HJ.out
              have hdr : KFr (W.heap.size + 1) wr wr.drew := ⟨rfl, rfl, rfl, Nat.le_refl _, fun _ _ _ => rfl⟩
              have HK1 := Lib.hid (hdr.trans hf2)
              clear hdr
              have HQ1 := Lib.hid hr2
              have hsw : wr.heap.size ≤ V1.heap.size := HK1.out.size
              have hsw2 : AA.heap.size ≤ wr.heap.size := HF.out.size
              obtain ⟨za5, zl5, zc5, rfl, -⟩ := code_is.1 hI
              simp only [mkA]
              refine hK _ _ hS1 ?_
              clear hK hI hr2 hf2 hH
              refine AnyK.one 4 (by kernel_rfl) rfl (fun KK hK => ?_)
              go_simp
              have hS2 := (Below.heap_alloc V1 (.cells [.int .i64 y.cls, .string y.params, .string y.locals, .bool y.ret, .int .i64 y.stack, .slice za5 zl5 zc5].toArray 61) _ (heap_lt hS1)).trans hS1
              have hJ2 := (Below.heap_alloc V1 (.cells [.int .i64 y.cls, .string y.params, .string y.locals, .bool y.ret, .int .i64 y.stack, .slice za5 zl5 zc5].toArray 61) _ (heap_lt hJ1)).trans hJ1
              refine hK _ _ hS2 ?_
              clear hK
              obtain ⟨i00, hi, hz0, hz1, hz2⟩ := info_parts info_Codes
              obtain ⟨vss, hvl, hown, hIs⟩ := (HL.out.kfr HK1.out hblt).kp (Kp.alloc _ _ _ (.cells [.int .i64 y.cls, .string y.params, .string y.locals, .bool y.ret, .int .i64 y.stack, .slice za5 zl5 zc5].toArray 61))
              have HXE := Lib.hid (is_step (is_wide HI.out (show AA.heap.size ≤ wr.drew.heap.size from hsw2) (fun _ h => h)) (Kp.alloc AA.heap.size [127] V1 (.cells [.int .i64 y.cls, .string y.params, .string y.locals, .bool y.ret, .int .i64 y.stack, .slice za5 zl5 zc5].toArray 61)))
              have HVL := Lib.hid hvl
              have HO2 := Lib.hid (HAL.out ▸ hown)
              have HOW := Lib.hid hown
              have HIS := Lib.hid hIs
              have HS2 := Lib.hid hS2
              have HJ2 := Lib.hid hJ2
              clear hown hIs hvl hS1 hS2 hJ1 hJ2 f7
              refine AnyK.late 5 (by kernel_rfl) (by kernel_rfl) rfl (fun KK hK => ?_)
              rw [if_pos (by rfl)]
              refine wp_append_own _ (.tmp 77) (.tmp 80) 24 rfl AA.heap.size 61 i00 (.agg #[.int .i64 0, .string ⟨#[]⟩, .string ⟨#[]⟩, .bool false, .int .i64 0, .slice none 0 0]) 6 80 Tryz.underlying24 hi hz0 hz1 hz2 rfl (by decide) v k vss.flatten rfl HO2.out ⟨V1.heap.size, 0, none⟩ 1 1 [.int .i64 y.cls, .string y.params, .string y.locals, .bool y.ret, .int .i64 y.stack, .slice za5 zl5 zc5] rfl rfl ?c1 ?c2 ?c3 ?c4 ?c5 ?_
              case c1 => exact lit_cells V1 [.int .i64 y.cls, .string y.params, .string y.locals, .bool y.ret, .int .i64 y.stack, .slice za5 zl5 zc5].toArray 61
              case c2 => intro u hu; simp only [List.mem_cons, List.not_mem_nil, or_false] at hu; rcases hu with rfl | rfl | rfl | rfl | rfl | rfl <;> rfl
              case c3 => unfold maxLen; omega
              case c4 => omega
              case c5 => simp; omega
              intro v1 W3 hown1 hgrow1 _
              obtain ⟨q1, q2, rfl⟩ := Joins.ownsRow_form hown1 (by omega)
              have HL3 := Lib.hid (Lst.push HVL.out HOW.out HIS.out HXE.out hgrow1 (by rw [HAL.out]; exact hown1) (by decide))
              have HF3 := Lib.hid (((HF.out.trans HK1.out).alloc (.cells [.int .i64 y.cls, .string y.params, .string y.locals, .bool y.ret, .int .i64 y.stack, .slice za5 zl5 zc5].toArray 61)).grown hgrow1 HO2.out)
              have HR3 := Lib.hid ((HQ1.out.alloc (.cells [.int .i64 y.cls, .string y.params, .string y.locals, .bool y.ret, .int .i64 y.stack, .slice za5 zl5 zc5].toArray 61)).grown hblt hgrow1 HO2.out)
              have hd3 := grown_keep hgrow1 HO2.out HS2.out (by decide)
              have hj3 := grown_keep hgrow1 HO2.out HJ2.out (by decide)
              have e6 : W3.cell? ⟨W.heap.size + 2, 2, none⟩ = some v := by rw [Lib.cell_of_heap hd3]; rfl
              have f6 := Lib.frozen_of_heap hd3 2
              have HD4 := Lib.hid (show (W3.setCell ⟨W.heap.size + 2, 2, none⟩ (.slice (some ⟨q1, 0, none⟩) (k + 1) q2)).heap[W.heap.size + 2]? = some (.cells #[.slice a0 l0 c0, .slice a1 l1 c1, .slice (some ⟨q1, 0, none⟩) (k + 1) q2, .slice none 0 0, .string ⟨#[]⟩, .slice none 0 0, .slice none 0 0, .slice none 0 0, .slice none 0 0, .slice none 0 0, .int .i64 0, .int .i64 0] 29 (0, 0)) from heap_set (j := 2) (.slice (some ⟨q1, 0, none⟩) (k + 1) q2) hd3)
              have HJ4 := Lib.hid ((setCell_rest W3 ⟨W.heap.size + 2, 2, none⟩ (.slice (some ⟨q1, 0, none⟩) (k + 1) q2) W.heap.size (by simp)).trans hj3)
              have HL4 := Lib.hid (HL3.out.kp (Kp.set (o := 2) hd3 (by decide) (.slice (some ⟨q1, 0, none⟩) (k + 1) q2)) : Lst _ _ _ _ (W3.setCell ⟨W.heap.size + 2, 2, none⟩ (.slice (some ⟨q1, 0, none⟩) (k + 1) q2)) _ _)
              have HF4 := Lib.hid (HF3.out.set (p := ⟨W.heap.size + 2, 2, none⟩) (.inr (by show _ ≤ W.heap.size + 2; omega)) (.slice (some ⟨q1, 0, none⟩) (k + 1) q2))
              have HR4 := Lib.hid (HR3.out.set (q := W.heap.size + 2) (o := 2) (by omega) (.slice (some ⟨q1, 0, none⟩) (k + 1) q2))
              have hkp : Kp AA.heap.size [3, 9, 53, 56, 58] wr (W3.setCell ⟨W.heap.size + 2, 2, none⟩ (.slice (some ⟨q1, 0, none⟩) (k + 1) q2)) := (((Kp.of HK1.out hblt).trans (Kp.alloc _ _ _ (.cells [.int .i64 y.cls, .string y.params, .string y.locals, .bool y.ret, .int .i64 y.stack, .slice za5 zl5 zc5].toArray 61))).trans (Kp.grown hgrow1 HO2.out (by decide))).trans (Kp.set (o := 2) hd3 (by decide) _)
              have HV0 := Lib.hid (row_step HW0.out (hkp.sub (by decide)) (Nat.le_refl _) (fun _ h => h))
              have HV1 := Lib.hid (row_step HW1.out (hkp.sub (by decide)) (Nat.le_refl _) (fun _ h => h))
              clear hkp
              clear hown1 hgrow1 hd3 hj3 HS2 HJ2
              refine hK _ _ ?_
              clear hK
              refine AnyK.late 6 (by kernel_rfl) (by kernel_rfl) rfl (fun KK hK => ?_)
              go_simp
              refine hK _ _ ?_
              clear hK
              refine AnyK.late 7 (by kernel_rfl) (by kernel_rfl) rfl (fun KK hK => ?_)
              go_simp
              refine hK _ _ ?_
              clear hK
              refine AnyK.done (by kernel_rfl) ?_ _
              go_wp2_with fail
              refine ⟨⟨k + 1, _, t2, _, by omega, by go_num, by simp [HAL.out], HL4.out, HR4.out, HF4.out, ?_, HD4.out, HJ4.out, HV0.out, HV1.out⟩, by simp [intOf]; omega⟩
              have hg := HGO.out
              rw [qGo_one HW.out, HX.out] at hg
              exact hg
          · obtain rfl : cnt = k := by omega
            have HE := Lib.hid (hend (.inl rfl))
            clear hend
            go_wp2_with fail
            go_meet
            exact ⟨acc, t, v, HE.out, HL.out, HR.out, HF.out, HD.out, HJ.out, HW0.out, HW1.out⟩
      case rest =>
        clear HQM HFM HDM HJM HM0 HM1
        obtain ⟨x2, t3, v, hE, hl, hr, hf, hd, hj, hw0, hw1⟩ := hcut
        obtain ⟨a2, c2, rfl⟩ := hl.form
        obtain ⟨l2, hlen2⟩ : ∃ l, x2.length = l := ⟨_, rfl⟩
        rw [hlen2] at hl hd
        have HX2 := Lib.hid (show (dList dCode).q Bs t2 = (x2, t3) from many_q HXM.out (HRL.out.trans hE))
        have HW2 := Lib.hid (hl.row hlen2.symm)
        have HQ := Lib.hid hr
        have HF := Lib.hid hf
        have HD := Lib.hid hd
        have HJ := Lib.hid hj
        have HW0 := Lib.hid hw0
        have HW1 := Lib.hid hw1
        clear hE hl hr hf hd hj hlen2 HXM HRL hcl hw0 hw1
        generalize wc = S3 at *
        have hc := qd_nums Bs (W.heap.size + 1) t3 S3 HQ.out
        obtain ⟨⟨x3, t4⟩, hx⟩ : ∃ r, (dList dNum).q Bs t3 = r := ⟨_, rfl⟩
        rw [hx] at hc
        simp only at hc
        have HX3 := Lib.hid hx
        clear hx
        go_wp2_with (go_at_call 51; refine hc.mono ?_)
        rintro e P ⟨vs, rfl, hI, hr, hf⟩
        obtain ⟨a3, l3, c3, rfl, hrow⟩ := slice_is.1 hI
        clear hI
        simp only [mk1, List.headD_cons]
        have hd := (hf.block _ (heap_lt HD.out) (by omega)).trans HD.out
        have hj := (hf.block _ (heap_lt HJ.out) (by omega)).trans HJ.out
        have e0 : P.cell? ⟨W.heap.size + 2, 3, none⟩ = some (.slice none 0 0) := by rw [Lib.cell_of_heap hd]; rfl
        have f0 := Lib.frozen_of_heap hd 3
        have HDn := Lib.hid (show (P.setCell ⟨W.heap.size + 2, 3, none⟩ (.slice a3 l3 c3)).heap[W.heap.size + 2]? = some (.cells #[.slice a0 l0 c0, .slice a1 l1 c1, .slice a2 l2 c2, .slice a3 l3 c3, .string ⟨#[]⟩, .slice none 0 0, .slice none 0 0, .slice none 0 0, .slice none 0 0, .slice none 0 0, .int .i64 0, .int .i64 0] 29 (0, 0)) from heap_set (j := 3) (.slice a3 l3 c3) hd)
        have HJn := Lib.hid ((setCell_rest P ⟨W.heap.size + 2, 3, none⟩ (.slice a3 l3 c3) W.heap.size (by simp)).trans hj)
        have HFn := Lib.hid ((HF.out.trans hf).set (p := ⟨W.heap.size + 2, 3, none⟩) (.inr (by show _ ≤ W.heap.size + 2; omega)) (.slice a3 l3 c3))
        have HQn := Lib.hid (hr.set (q := W.heap.size + 2) (o := 3) (by omega) (.slice a3 l3 c3))
        have hsz := HF.out.size
        have hkp : Kp AA.heap.size [3, 9, 53, 56, 58, 61, 127] S3 (P.setCell ⟨W.heap.size + 2, 3, none⟩ (.slice a3 l3 c3)) := (Kp.of hf hblt).trans (Kp.set (o := 3) hd (by decide) (.slice a3 l3 c3))
        have HWn0 := Lib.hid (row_step HW0.out (hkp.sub (by decide)) (Nat.le_refl _) (fun _ h => h))
        have HWn1 := Lib.hid (row_step HW1.out (hkp.sub (by decide)) (Nat.le_refl _) (fun _ h => h))
        have HWn2 := Lib.hid (row_step HW2.out (hkp.sub (by decide)) (Nat.le_refl _) (fun _ h => h))
        have HWn3 := Lib.hid (row_step hrow (Kp.set (o := 3) hd (by decide) (.slice a3 l3 c3)) hsz (fun _ h => h))
        clear hrow
        clear hc hr hf hd hj HD HJ HF HQ hkp hsz HW0 HW1 HW2
        go_wp2_with fail
        generalize P.setCell ⟨W.heap.size + 2, 3, none⟩ (.slice a3 l3 c3) = S4 at *
        clear e0 f0
        have HD := HDn
        have HJ := HJn
        have HF := HFn
        have HQ := HQn
        clear HDn HJn HFn HQn
        have HW0 := HWn0
        clear HWn0
        have HW1 := HWn1
        clear HWn1
        have HW2 := HWn2
        clear HWn2
        have HW3 := HWn3
        clear HWn3
        have hc := qd_text Bs (W.heap.size + 1) t4 S4 HQ.out
        obtain ⟨⟨x4, t5⟩, hx⟩ : ∃ r, dText.q Bs t4 = r := ⟨_, rfl⟩
        rw [hx] at hc
        simp only at hc
        have HX4 := Lib.hid hx
        clear hx
        go_wp2_with (go_at_call 46; refine hc.mono ?_)
        rintro e P ⟨vs, rfl, hI, hr, hf⟩
        obtain rfl : vs = [.string x4] := hI
        simp only [mk1, List.headD_cons]
        have hd := (hf.block _ (heap_lt HD.out) (by omega)).trans HD.out
        have hj := (hf.block _ (heap_lt HJ.out) (by omega)).trans HJ.out
        have e0 : P.cell? ⟨W.heap.size + 2, 4, none⟩ = some (.string ⟨#[]⟩) := by rw [Lib.cell_of_heap hd]; rfl
        have f0 := Lib.frozen_of_heap hd 4
        have HDn := Lib.hid (show (P.setCell ⟨W.heap.size + 2, 4, none⟩ (.string x4)).heap[W.heap.size + 2]? = some (.cells #[.slice a0 l0 c0, .slice a1 l1 c1, .slice a2 l2 c2, .slice a3 l3 c3, .string x4, .slice none 0 0, .slice none 0 0, .slice none 0 0, .slice none 0 0, .slice none 0 0, .int .i64 0, .int .i64 0] 29 (0, 0)) from heap_set (j := 4) (.string x4) hd)
        have HJn := Lib.hid ((setCell_rest P ⟨W.heap.size + 2, 4, none⟩ (.string x4) W.heap.size (by simp)).trans hj)
        have HFn := Lib.hid ((HF.out.trans hf).set (p := ⟨W.heap.size + 2, 4, none⟩) (.inr (by show _ ≤ W.heap.size + 2; omega)) (.string x4))
        have HQn := Lib.hid (hr.set (q := W.heap.size + 2) (o := 4) (by omega) (.string x4))
        have hsz := HF.out.size
        have hkp : Kp AA.heap.size [3, 9, 53, 56, 58, 61, 127] S4 (P.setCell ⟨W.heap.size + 2, 4, none⟩ (.string x4)) := (Kp.of hf hblt).trans (Kp.set (o := 4) hd (by decide) (.string x4))
        have HWn0 := Lib.hid (row_step HW0.out (hkp.sub (by decide)) (Nat.le_refl _) (fun _ h => h))
        have HWn1 := Lib.hid (row_step HW1.out (hkp.sub (by decide)) (Nat.le_refl _) (fun _ h => h))
        have HWn2 := Lib.hid (row_step HW2.out (hkp.sub (by decide)) (Nat.le_refl _) (fun _ h => h))
        have HWn3 := Lib.hid (row_step HW3.out (hkp.sub (by decide)) (Nat.le_refl _) (fun _ h => h))
        clear hc hr hf hd hj HD HJ HF HQ hkp hsz HW0 HW1 HW2 HW3
        go_wp2_with fail
        generalize P.setCell ⟨W.heap.size + 2, 4, none⟩ (.string x4) = S5 at *
        clear e0 f0
        have HD := HDn
        have HJ := HJn
        have HF := HFn
        have HQ := HQn
        clear HDn HJn HFn HQn
        have HW0 := HWn0
        clear HWn0
        have HW1 := HWn1
        clear HWn1
        have HW2 := HWn2
        clear HWn2
        have HW3 := HWn3
        clear HWn3
        have hc := qd_nums Bs (W.heap.size + 1) t5 S5 HQ.out
        obtain ⟨⟨x5, t6⟩, hx⟩ : ∃ r, (dList dNum).q Bs t5 = r := ⟨_, rfl⟩
        rw [hx] at hc
        simp only at hc
        have HX5 := Lib.hid hx
        clear hx
        go_wp2_with (go_at_call 51; refine hc.mono ?_)
        rintro e P ⟨vs, rfl, hI, hr, hf⟩
        obtain ⟨a5, l5, c5, rfl, hrow⟩ := slice_is.1 hI
        clear hI
        simp only [mk1, List.headD_cons]
        have hd := (hf.block _ (heap_lt HD.out) (by omega)).trans HD.out
        have hj := (hf.block _ (heap_lt HJ.out) (by omega)).trans HJ.out
        have e0 : P.cell? ⟨W.heap.size + 2, 5, none⟩ = some (.slice none 0 0) := by rw [Lib.cell_of_heap hd]; rfl
        have f0 := Lib.frozen_of_heap hd 5
        have HDn := Lib.hid (show (P.setCell ⟨W.heap.size + 2, 5, none⟩ (.slice a5 l5 c5)).heap[W.heap.size + 2]? = some (.cells #[.slice a0 l0 c0, .slice a1 l1 c1, .slice a2 l2 c2, .slice a3 l3 c3, .string x4, .slice a5 l5 c5, .slice none 0 0, .slice none 0 0, .slice none 0 0, .slice none 0 0, .int .i64 0, .int .i64 0] 29 (0, 0)) from heap_set (j := 5) (.slice a5 l5 c5) hd)
        have HJn := Lib.hid ((setCell_rest P ⟨W.heap.size + 2, 5, none⟩ (.slice a5 l5 c5) W.heap.size (by simp)).trans hj)
        have HFn := Lib.hid ((HF.out.trans hf).set (p := ⟨W.heap.size + 2, 5, none⟩) (.inr (by show _ ≤ W.heap.size + 2; omega)) (.slice a5 l5 c5))
        have HQn := Lib.hid (hr.set (q := W.heap.size + 2) (o := 5) (by omega) (.slice a5 l5 c5))
        have hsz := HF.out.size
        have hkp : Kp AA.heap.size [3, 9, 53, 56, 58, 61, 127] S5 (P.setCell ⟨W.heap.size + 2, 5, none⟩ (.slice a5 l5 c5)) := (Kp.of hf hblt).trans (Kp.set (o := 5) hd (by decide) (.slice a5 l5 c5))
        have HWn0 := Lib.hid (row_step HW0.out (hkp.sub (by decide)) (Nat.le_refl _) (fun _ h => h))
        have HWn1 := Lib.hid (row_step HW1.out (hkp.sub (by decide)) (Nat.le_refl _) (fun _ h => h))
        have HWn2 := Lib.hid (row_step HW2.out (hkp.sub (by decide)) (Nat.le_refl _) (fun _ h => h))
        have HWn3 := Lib.hid (row_step HW3.out (hkp.sub (by decide)) (Nat.le_refl _) (fun _ h => h))
        have HWn5 := Lib.hid (row_step hrow (Kp.set (o := 5) hd (by decide) (.slice a5 l5 c5)) hsz (fun _ h => h))
        clear hrow
        clear hc hr hf hd hj HD HJ HF HQ hkp hsz HW0 HW1 HW2 HW3
        go_wp2_with fail
        generalize P.setCell ⟨W.heap.size + 2, 5, none⟩ (.slice a5 l5 c5) = S6 at *
        clear e0 f0
        have HD := HDn
        have HJ := HJn
        have HF := HFn
        have HQ := HQn
        clear HDn HJn HFn HQn
        have HW0 := HWn0
        clear HWn0
        have HW1 := HWn1
        clear HWn1
        have HW2 := HWn2
        clear HWn2
        have HW3 := HWn3
        clear HWn3
        have HW5 := HWn5
        clear HWn5
        have hc := qd_nums Bs (W.heap.size + 1) t6 S6 HQ.out
        obtain ⟨⟨x6, t7⟩, hx⟩ : ∃ r, (dList dNum).q Bs t6 = r := ⟨_, rfl⟩
        rw [hx] at hc
        simp only at hc
        have HX6 := Lib.hid hx
        clear hx
        go_wp2_with (go_at_call 51; refine hc.mono ?_)
        rintro e P ⟨vs, rfl, hI, hr, hf⟩
        obtain ⟨a6, l6, c6, rfl, hrow⟩ := slice_is.1 hI
        clear hI
        simp only [mk1, List.headD_cons]
        have hd := (hf.block _ (heap_lt HD.out) (by omega)).trans HD.out
        have hj := (hf.block _ (heap_lt HJ.out) (by omega)).trans HJ.out
        have e0 : P.cell? ⟨W.heap.size + 2, 6, none⟩ = some (.slice none 0 0) := by rw [Lib.cell_of_heap hd]; rfl
        have f0 := Lib.frozen_of_heap hd 6
        have HDn := Lib.hid (show (P.setCell ⟨W.heap.size + 2, 6, none⟩ (.slice a6 l6 c6)).heap[W.heap.size + 2]? = some (.cells #[.slice a0 l0 c0, .slice a1 l1 c1, .slice a2 l2 c2, .slice a3 l3 c3, .string x4, .slice a5 l5 c5, .slice a6 l6 c6, .slice none 0 0, .slice none 0 0, .slice none 0 0, .int .i64 0, .int .i64 0] 29 (0, 0)) from heap_set (j := 6) (.slice a6 l6 c6) hd)
        have HJn := Lib.hid ((setCell_rest P ⟨W.heap.size + 2, 6, none⟩ (.slice a6 l6 c6) W.heap.size (by simp)).trans hj)
        have HFn := Lib.hid ((HF.out.trans hf).set (p := ⟨W.heap.size + 2, 6, none⟩) (.inr (by show _ ≤ W.heap.size + 2; omega)) (.slice a6 l6 c6))
        have HQn := Lib.hid (hr.set (q := W.heap.size + 2) (o := 6) (by omega) (.slice a6 l6 c6))
        have hsz := HF.out.size
        have hkp : Kp AA.heap.size [3, 9, 53, 56, 58, 61, 127] S6 (P.setCell ⟨W.heap.size + 2, 6, none⟩ (.slice a6 l6 c6)) := (Kp.of hf hblt).trans (Kp.set (o := 6) hd (by decide) (.slice a6 l6 c6))
        have HWn0 := Lib.hid (row_step HW0.out (hkp.sub (by decide)) (Nat.le_refl _) (fun _ h => h))
        have HWn1 := Lib.hid (row_step HW1.out (hkp.sub (by decide)) (Nat.le_refl _) (fun _ h => h))
        have HWn2 := Lib.hid (row_step HW2.out (hkp.sub (by decide)) (Nat.le_refl _) (fun _ h => h))
        have HWn3 := Lib.hid (row_step HW3.out (hkp.sub (by decide)) (Nat.le_refl _) (fun _ h => h))
        have HWn5 := Lib.hid (row_step HW5.out (hkp.sub (by decide)) (Nat.le_refl _) (fun _ h => h))
        have HWn6 := Lib.hid (row_step hrow (Kp.set (o := 6) hd (by decide) (.slice a6 l6 c6)) hsz (fun _ h => h))
        clear hrow
        clear hc hr hf hd hj HD HJ HF HQ hkp hsz HW0 HW1 HW2 HW3 HW5
        go_wp2_with fail
        generalize P.setCell ⟨W.heap.size + 2, 6, none⟩ (.slice a6 l6 c6) = S7 at *
        clear e0 f0
        have HD := HDn
        have HJ := HJn
        have HF := HFn
        have HQ := HQn
        clear HDn HJn HFn HQn
        have HW0 := HWn0
        clear HWn0
        have HW1 := HWn1
        clear HWn1
        have HW2 := HWn2
        clear HWn2
        have HW3 := HWn3
        clear HWn3
        have HW5 := HWn5
        clear HWn5
        have HW6 := HWn6
        clear HWn6
        have hc := qd_links Bs (W.heap.size + 1) t7 S7 HQ.out
        obtain ⟨⟨x7, t8⟩, hx⟩ : ∃ r, (dList dLink).q Bs t7 = r := ⟨_, rfl⟩
        rw [hx] at hc
        simp only at hc
        have HX7 := Lib.hid hx
        clear hx
        go_wp2_with (go_at_call 52; refine hc.mono ?_)
        rintro e P ⟨vs, rfl, hI, hr, hf⟩
        obtain ⟨a7, l7, c7, rfl, hrow⟩ := slice_is.1 hI
        clear hI
        simp only [mk1, List.headD_cons]
        have hd := (hf.block _ (heap_lt HD.out) (by omega)).trans HD.out
        have hj := (hf.block _ (heap_lt HJ.out) (by omega)).trans HJ.out
        have e0 : P.cell? ⟨W.heap.size + 2, 7, none⟩ = some (.slice none 0 0) := by rw [Lib.cell_of_heap hd]; rfl
        have f0 := Lib.frozen_of_heap hd 7
        have HDn := Lib.hid (show (P.setCell ⟨W.heap.size + 2, 7, none⟩ (.slice a7 l7 c7)).heap[W.heap.size + 2]? = some (.cells #[.slice a0 l0 c0, .slice a1 l1 c1, .slice a2 l2 c2, .slice a3 l3 c3, .string x4, .slice a5 l5 c5, .slice a6 l6 c6, .slice a7 l7 c7, .slice none 0 0, .slice none 0 0, .int .i64 0, .int .i64 0] 29 (0, 0)) from heap_set (j := 7) (.slice a7 l7 c7) hd)
        have HJn := Lib.hid ((setCell_rest P ⟨W.heap.size + 2, 7, none⟩ (.slice a7 l7 c7) W.heap.size (by simp)).trans hj)
        have HFn := Lib.hid ((HF.out.trans hf).set (p := ⟨W.heap.size + 2, 7, none⟩) (.inr (by show _ ≤ W.heap.size + 2; omega)) (.slice a7 l7 c7))
        have HQn := Lib.hid (hr.set (q := W.heap.size + 2) (o := 7) (by omega) (.slice a7 l7 c7))
        have hsz := HF.out.size
        have hkp : Kp AA.heap.size [3, 9, 53, 56, 58, 61, 127] S7 (P.setCell ⟨W.heap.size + 2, 7, none⟩ (.slice a7 l7 c7)) := (Kp.of hf hblt).trans (Kp.set (o := 7) hd (by decide) (.slice a7 l7 c7))
        have HWn0 := Lib.hid (row_step HW0.out (hkp.sub (by decide)) (Nat.le_refl _) (fun _ h => h))
        have HWn1 := Lib.hid (row_step HW1.out (hkp.sub (by decide)) (Nat.le_refl _) (fun _ h => h))
        have HWn2 := Lib.hid (row_step HW2.out (hkp.sub (by decide)) (Nat.le_refl _) (fun _ h => h))
        have HWn3 := Lib.hid (row_step HW3.out (hkp.sub (by decide)) (Nat.le_refl _) (fun _ h => h))
        have HWn5 := Lib.hid (row_step HW5.out (hkp.sub (by decide)) (Nat.le_refl _) (fun _ h => h))
        have HWn6 := Lib.hid (row_step HW6.out (hkp.sub (by decide)) (Nat.le_refl _) (fun _ h => h))
        have HWn7 := Lib.hid (row_step hrow (Kp.set (o := 7) hd (by decide) (.slice a7 l7 c7)) hsz (fun _ h => h))
        clear hrow
        clear hc hr hf hd hj HD HJ HF HQ hkp hsz HW0 HW1 HW2 HW3 HW5 HW6
        go_wp2_with fail
        generalize P.setCell ⟨W.heap.size + 2, 7, none⟩ (.slice a7 l7 c7) = S8 at *
        clear e0 f0
        have HD := HDn
        have HJ := HJn
        have HF := HFn
        have HQ := HQn
        clear HDn HJn HFn HQn
        have HW0 := HWn0
        clear HWn0
        have HW1 := HWn1
        clear HWn1
        have HW2 := HWn2
        clear HWn2
        have HW3 := HWn3
        clear HWn3
        have HW5 := HWn5
        clear HWn5
        have HW6 := HWn6
        clear HWn6
        have HW7 := HWn7
        clear HWn7
        have hc := qd_links Bs (W.heap.size + 1) t8 S8 HQ.out
        obtain ⟨⟨x8, t9⟩, hx⟩ : ∃ r, (dList dLink).q Bs t8 = r := ⟨_, rfl⟩
        rw [hx] at hc
        simp only at hc
        have HX8 := Lib.hid hx
        clear hx
        go_wp2_with (go_at_call 52; refine hc.mono ?_)
        rintro e P ⟨vs, rfl, hI, hr, hf⟩
        obtain ⟨a8, l8, c8, rfl, hrow⟩ := slice_is.1 hI
        clear hI
        simp only [mk1, List.headD_cons]
        have hd := (hf.block _ (heap_lt HD.out) (by omega)).trans HD.out
        have hj := (hf.block _ (heap_lt HJ.out) (by omega)).trans HJ.out
        have e0 : P.cell? ⟨W.heap.size + 2, 8, none⟩ = some (.slice none 0 0) := by rw [Lib.cell_of_heap hd]; rfl
        have f0 := Lib.frozen_of_heap hd 8
        have HDn := Lib.hid (show (P.setCell ⟨W.heap.size + 2, 8, none⟩ (.slice a8 l8 c8)).heap[W.heap.size + 2]? = some (.cells #[.slice a0 l0 c0, .slice a1 l1 c1, .slice a2 l2 c2, .slice a3 l3 c3, .string x4, .slice a5 l5 c5, .slice a6 l6 c6, .slice a7 l7 c7, .slice a8 l8 c8, .slice none 0 0, .int .i64 0, .int .i64 0] 29 (0, 0)) from heap_set (j := 8) (.slice a8 l8 c8) hd)
        have HJn := Lib.hid ((setCell_rest P ⟨W.heap.size + 2, 8, none⟩ (.slice a8 l8 c8) W.heap.size (by simp)).trans hj)
        have HFn := Lib.hid ((HF.out.trans hf).set (p := ⟨W.heap.size + 2, 8, none⟩) (.inr (by show _ ≤ W.heap.size + 2; omega)) (.slice a8 l8 c8))
        have HQn := Lib.hid (hr.set (q := W.heap.size + 2) (o := 8) (by omega) (.slice a8 l8 c8))
        have hsz := HF.out.size
        have hkp : Kp AA.heap.size [3, 9, 53, 56, 58, 61, 90, 127] S8 (P.setCell ⟨W.heap.size + 2, 8, none⟩ (.slice a8 l8 c8)) := (Kp.of hf hblt).trans (Kp.set (o := 8) hd (by decide) (.slice a8 l8 c8))
        have HWn0 := Lib.hid (row_step HW0.out (hkp.sub (by decide)) (Nat.le_refl _) (fun _ h => h))
        have HWn1 := Lib.hid (row_step HW1.out (hkp.sub (by decide)) (Nat.le_refl _) (fun _ h => h))
        have HWn2 := Lib.hid (row_step HW2.out (hkp.sub (by decide)) (Nat.le_refl _) (fun _ h => h))
        have HWn3 := Lib.hid (row_step HW3.out (hkp.sub (by decide)) (Nat.le_refl _) (fun _ h => h))
        have HWn5 := Lib.hid (row_step HW5.out (hkp.sub (by decide)) (Nat.le_refl _) (fun _ h => h))
        have HWn6 := Lib.hid (row_step HW6.out (hkp.sub (by decide)) (Nat.le_refl _) (fun _ h => h))
        have HWn7 := Lib.hid (row_step HW7.out (hkp.sub (by decide)) (Nat.le_refl _) (fun _ h => h))
        have HWn8 := Lib.hid (row_step hrow (Kp.set (o := 8) hd (by decide) (.slice a8 l8 c8)) hsz (fun _ h => h))
        clear hrow
        clear hc hr hf hd hj HD HJ HF HQ hkp hsz HW0 HW1 HW2 HW3 HW5 HW6 HW7
        go_wp2_with fail
        generalize P.setCell ⟨W.heap.size + 2, 8, none⟩ (.slice a8 l8 c8) = S9 at *
        clear e0 f0
        have HD := HDn
        have HJ := HJn
        have HF := HFn
        have HQ := HQn
        clear HDn HJn HFn HQn
        have HW0 := HWn0
        clear HWn0
        have HW1 := HWn1
        clear HWn1
        have HW2 := HWn2
        clear HWn2
        have HW3 := HWn3
        clear HWn3
        have HW5 := HWn5
        clear HWn5
        have HW6 := HWn6
        clear HWn6
        have HW7 := HWn7
        clear HWn7
        have HW8 := HWn8
        clear HWn8
        have hc := qmany_any Bs (W.heap.size + 1) t9 S9 HQ.out
        have hcl := rCount_le Bs 1 t9
        obtain ⟨⟨cnt, u0⟩, hx⟩ : ∃ r, rCount Bs 1 t9 = r := ⟨_, rfl⟩
        rw [hx] at hc hcl
        simp only at hc hcl
        have HXM := Lib.hid hx
        obtain ⟨R, hres⟩ : ∃ R, qGo (dJob.q Bs) cnt [] u0 = R := ⟨_, rfl⟩
        have HRL := Lib.hid hres
        clear hx hres
        go_wp2_with (go_at_call 47; refine hc.mono ?_)
        rintro e PM ⟨rfl, hr, hf⟩
        have HQM := Lib.hid hr
        have HFM := Lib.hid (HF.out.trans hf)
        have HDM := Lib.hid ((hf.block _ (heap_lt HD.out) (by omega)).trans HD.out)
        have HJM := Lib.hid ((hf.block _ (heap_lt HJ.out) (by omega)).trans HJ.out)
        have HM0 := Lib.hid (row_step HW0.out (Kp.of hf hblt) (Nat.le_refl _) (fun _ h => h))
        have HM1 := Lib.hid (row_step HW1.out (Kp.of hf hblt) (Nat.le_refl _) (fun _ h => h))
        have HM2 := Lib.hid (row_step HW2.out (Kp.of hf hblt) (Nat.le_refl _) (fun _ h => h))
        have HM3 := Lib.hid (row_step HW3.out (Kp.of hf hblt) (Nat.le_refl _) (fun _ h => h))
        have HM5 := Lib.hid (row_step HW5.out (Kp.of hf hblt) (Nat.le_refl _) (fun _ h => h))
        have HM6 := Lib.hid (row_step HW6.out (Kp.of hf hblt) (Nat.le_refl _) (fun _ h => h))
        have HM7 := Lib.hid (row_step HW7.out (Kp.of hf hblt) (Nat.le_refl _) (fun _ h => h))
        have HM8 := Lib.hid (row_step HW8.out (Kp.of hf hblt) (Nat.le_refl _) (fun _ h => h))
        clear hc hr hf HQ HF HD HJ HW0 HW1 HW2 HW3 HW5 HW6 HW7 HW8
        go_upto_block 6 with fail
        go_cut [] from 103 to 129 (fun wx => ∃ (acc : List JobD) (t : Rst) (v : Value), R = (acc, t) ∧ Lst shJob AA.heap.size 78 [] wx v acc ∧ QAt wx (W.heap.size + 1) Bs t ∧ KFr (W.heap.size + 1) AA wx ∧ wx.heap[W.heap.size + 2]? = some (.cells #[.slice a0 l0 c0, .slice a1 l1 c1, .slice a2 l2 c2, .slice a3 l3 c3, .string x4, .slice a5 l5 c5, .slice a6 l6 c6, .slice a7 l7 c7, .slice a8 l8 c8, v, .int .i64 0, .int .i64 0] 29 (0, 0)) ∧ wx.heap[W.heap.size]? = some (.cells #[.slice none 0 0, .slice none 0 0, .slice none 0 0, .slice none 0 0, .string ⟨#[]⟩, .slice none 0 0, .slice none 0 0, .slice none 0 0, .slice none 0 0, .slice none 0 0, .int .i64 0, .int .i64 0] 29 (0, 0)) ∧ Row (shSlice shStr) (SB AA.heap.size [53, 9] wx) wx a0 l0 x0 ∧ Row shDesc (SB AA.heap.size [56, 58, 3, 9] wx) wx a1 l1 x1 ∧ Row shCode (SB AA.heap.size [61, 127] wx) wx a2 l2 x2 ∧ Row shInt (SB AA.heap.size [3] wx) wx a3 l3 x3 ∧ Row shInt (SB AA.heap.size [3] wx) wx a5 l5 x5 ∧ Row shInt (SB AA.heap.size [3] wx) wx a6 l6 x6 ∧ Row shLink (SB AA.heap.size [90] wx) wx a7 l7 x7 ∧ Row shLink (SB AA.heap.size [90] wx) wx a8 l8 x8)
        case first =>
          go_wp2_with fail
          go_loopw [10, 11] (fun i _ wr => ∃ (k : Nat) (acc : List JobD) (t : Rst) (v : Value), k ≤ cnt ∧ i = .int .i64 k ∧ acc.length = k ∧ Lst shJob AA.heap.size 78 [] wr v acc ∧ QAt wr (W.heap.size + 1) Bs t ∧ KFr (W.heap.size + 1) AA wr ∧ qGo (dJob.q Bs) (cnt - k) acc t = R ∧ wr.heap[W.heap.size + 2]? = some (.cells #[.slice a0 l0 c0, .slice a1 l1 c1, .slice a2 l2 c2, .slice a3 l3 c3, .string x4, .slice a5 l5 c5, .slice a6 l6 c6, .slice a7 l7 c7, .slice a8 l8 c8, v, .int .i64 0, .int .i64 0] 29 (0, 0)) ∧ wr.heap[W.heap.size]? = some (.cells #[.slice none 0 0, .slice none 0 0, .slice none 0 0, .slice none 0 0, .string ⟨#[]⟩, .slice none 0 0, .slice none 0 0, .slice none 0 0, .slice none 0 0, .slice none 0 0, .int .i64 0, .int .i64 0] 29 (0, 0)) ∧ Row (shSlice shStr) (SB AA.heap.size [53, 9] wr) wr a0 l0 x0 ∧ Row shDesc (SB AA.heap.size [56, 58, 3, 9] wr) wr a1 l1 x1 ∧ Row shCode (SB AA.heap.size [61, 127] wr) wr a2 l2 x2 ∧ Row shInt (SB AA.heap.size [3] wr) wr a3 l3 x3 ∧ Row shInt (SB AA.heap.size [3] wr) wr a5 l5 x5 ∧ Row shInt (SB AA.heap.size [3] wr) wr a6 l6 x6 ∧ Row shLink (SB AA.heap.size [90] wr) wr a7 l7 x7 ∧ Row shLink (SB AA.heap.size [90] wr) wr a8 l8 x8) (fun i _ _ => cnt - (intOf i).toNat)
          case atStart => exact ⟨0, [], u0, .slice none 0 0, Nat.zero_le _, rfl, rfl, Lst.nil, HQM.out, HFM.out, by rw [Nat.sub_zero]; exact HRL.out, HDM.out, HJM.out, HM0.out, HM1.out, HM2.out, HM3.out, HM5.out, HM6.out, HM7.out, HM8.out⟩
          case round =>
            clear HQM HFM HDM HJM HM0 HM1 HM2 HM3 HM5 HM6 HM7 HM8
            obtain ⟨k, acc, t, v, hk, rfl, hal, hl, hr, hf, hgo, hd, hj, hw0, hw1, hw2, hw3, hw5, hw6, hw7, hw8⟩ := hrel
            obtain ⟨a99, n99, cap99, g0, g1, g2, g3, g4, -⟩ := hr.cells
            have HL := Lib.hid hl
            have HR := Lib.hid hr
            have HF := Lib.hid hf
            have HGO := Lib.hid hgo
            have HAL := Lib.hid hal
            have HD := Lib.hid hd
            have HJ := Lib.hid hj
            have HW0 := Lib.hid hw0
            have HW1 := Lib.hid hw1
            have HW2 := Lib.hid hw2
            have HW3 := Lib.hid hw3
            have HW5 := Lib.hid hw5
            have HW6 := Lib.hid hw6
            have HW7 := Lib.hid hw7
            have HW8 := Lib.hid hw8
            clear hl hr hf hgo g0 g1 g3 g4 hal hd hj hw0 hw1 hw2 hw3 hw5 hw6 hw7 hw8
            have hend : (k = cnt ∨ t.wrong = true) → R = (acc, t) := by
              rintro (rfl | hw)
              · have := HGO.out; rw [Nat.sub_self] at this; exact this.symm
              · rw [← HGO.out, qGo_bad hw]
            by_cases hlt : k < cnt
            · have i0 : (k : Int) < (cnt : Int) := by omega
              have hm : cnt - k = (cnt - (k + 1)) + 1 := by omega
              rw [hm] at HGO
              cases hw : t.wrong with
              | true =>
                rw [hw] at g2
                have HE := Lib.hid (hend (.inr hw))
                clear hend hw
                go_wp2_with fail
                go_meet
                exact ⟨acc, t, v, HE.out, HL.out, HR.out, HF.out, HD.out, HJ.out, HW0.out, HW1.out, HW2.out, HW3.out, HW5.out, HW6.out, HW7.out, HW8.out⟩
              | false =>
                rw [hw] at g2
                have HW := Lib.hid hw
                clear hw hend
                obtain ⟨i00, hi, hz0, hz1, hz2⟩ := info_parts info_Jobs
                have hc := qd_num Bs (W.heap.size + 1) t wr HR.out
                obtain ⟨⟨y0, u1⟩, hx⟩ : ∃ r, dNum.q Bs t = r := ⟨_, rfl⟩
                rw [hx] at hc
                simp only at hc
                have HY0 := Lib.hid hx
                clear hx
                go_wp2_with (go_at_call 53; refine hc.mono ?_)
                rintro e V1 ⟨vs, rfl, hI, hr, hf⟩
                obtain rfl : vs = [.int .i64 y0] := hI
                simp only [mk1, List.headD_cons]
                have hbq := hr.lt
                have HQ1 := Lib.hid (hr.box #[.int .i64 0, .int .i64 0, .int .i64 0] #[.int .i64 y0, .int .i64 0, .int .i64 0] 78)
                have HK1 := Lib.hid (hf.box #[.int .i64 0, .int .i64 0, .int .i64 0] #[.int .i64 y0, .int .i64 0, .int .i64 0] 78)
                have HB1 := Lib.hid (box_is V1 #[.int .i64 0, .int .i64 0, .int .i64 0] #[.int .i64 y0, .int .i64 0, .int .i64 0] 78)
                have HZ1 := Lib.hid (heap_alloc_new V1 (.cells #[.int .i64 0, .int .i64 0, .int .i64 0] 78))
                have hone : (#[.int .i64 y0, .int .i64 0, .int .i64 0] : Array Value).all (·.oneCell') = true := by simp [Value.oneCell']
                have hsv := hf.size
                have hsu1 : ((V1.alloc (.cells #[.int .i64 0, .int .i64 0, .int .i64 0] 78)).setRow V1.heap.size #[.int .i64 y0, .int .i64 0, .int .i64 0]).heap.size = V1.heap.size + 1 := by rw [size_setRow]; simp
                clear hc hr hf
                go_wp2_with (refine wpList_store_row rfl 78 (.tmp 11) (.tmp 117) rfl V1.heap.size #[.int .i64 y0, .int .i64 0, .int .i64 0] rfl rfl 78 #[.int .i64 0, .int .i64 0, .int .i64 0] HZ1.out size78 rfl hone ?_)
                generalize (V1.alloc (.cells #[.int .i64 0, .int .i64 0, .int .i64 0] 78)).setRow V1.heap.size #[.int .i64 y0, .int .i64 0, .int .i64 0] = U1 at *
                clear HZ1 hone
                have hc := qd_num Bs (W.heap.size + 1) u1 U1 HQ1.out
                obtain ⟨⟨y1, u2⟩, hx⟩ : ∃ r, dNum.q Bs u1 = r := ⟨_, rfl⟩
                rw [hx] at hc
                simp only at hc
                have HY1 := Lib.hid hx
                clear hx
                go_wp2_with (go_at_call 53; refine hc.mono ?_)
                rintro e V2 ⟨vs, rfl, hI, hr, hf⟩
                obtain rfl : vs = [.int .i64 y1] := hI
                simp only [mk1, List.headD_cons]
                have hb := (hf.block _ (heap_lt HB1.out) (by omega)).trans HB1.out
                have e0 : V2.cell? ⟨V1.heap.size, 1, none⟩ = some (.int .i64 0) := by rw [Lib.cell_of_heap hb]; rfl
                have f0 := Lib.frozen_of_heap hb 1
                have HB2 := Lib.hid (show (V2.setCell ⟨V1.heap.size, 1, none⟩ (.int .i64 y1)).heap[V1.heap.size]? = some (.cells #[.int .i64 y0, .int .i64 y1, .int .i64 0] 78 (0, 0)) from heap_set (j := 1) (.int .i64 y1) hb)
                have HK2 := Lib.hid ((HK1.out.trans hf).set (p := ⟨V1.heap.size, 1, none⟩) (.inr hsv) (.int .i64 y1))
                have HQ2 := Lib.hid (hr.set (q := V1.heap.size) (o := 1) (by omega) (.int .i64 y1))
                clear hc hr hf hb HB1 HK1 HQ1
                go_wp2_with fail
                generalize V2.setCell ⟨V1.heap.size, 1, none⟩ (.int .i64 y1) = U2 at *
                clear e0 f0
                have hc := qd_num Bs (W.heap.size + 1) u2 U2 HQ2.out
                obtain ⟨⟨y2, u3⟩, hx⟩ : ∃ r, dNum.q Bs u2 = r := ⟨_, rfl⟩
                rw [hx] at hc
                simp only at hc
                have HY2 := Lib.hid hx
                clear hx
                go_wp2_with (go_at_call 53; refine hc.mono ?_)
                rintro e V3 ⟨vs, rfl, hI, hr, hf⟩
                obtain rfl : vs = [.int .i64 y2] := hI
                simp only [mk1, List.headD_cons]
                have hb := (hf.block _ (heap_lt HB2.out) (by omega)).trans HB2.out
                have e0 : V3.cell? ⟨V1.heap.size, 2, none⟩ = some (.int .i64 0) := by rw [Lib.cell_of_heap hb]; rfl
                have f0 := Lib.frozen_of_heap hb 2
                have HB3 := Lib.hid (show (V3.setCell ⟨V1.heap.size, 2, none⟩ (.int .i64 y2)).heap[V1.heap.size]? = some (.cells #[.int .i64 y0, .int .i64 y1, .int .i64 y2] 78 (0, 0)) from heap_set (j := 2) (.int .i64 y2) hb)
                have HK3 := Lib.hid ((HK2.out.trans hf).set (p := ⟨V1.heap.size, 2, none⟩) (.inr hsv) (.int .i64 y2))
                have HQ3 := Lib.hid (hr.set (q := V1.heap.size) (o := 2) (by omega) (.int .i64 y2))
                clear hc hr hf hb HB2 HK2 HQ2
                have HX := Lib.hid (show dJob.q Bs t = ((⟨y0, y1, y2⟩ : JobD), u3) from iso_q (pair_q (pair_q HY0.out HY1.out) HY2.out))
                have hsz := HF.out.size
                have hszu := HK3.out.size
                have hx0 : shJob.Is (SB AA.heap.size [] (V3.setCell ⟨V1.heap.size, 2, none⟩ (.int .i64 y2))) (V3.setCell ⟨V1.heap.size, 2, none⟩ (.int .i64 y2)) [.int .i64 y0, .int .i64 y1, .int .i64 y2] ⟨y0, y1, y2⟩ := job_is.2 rfl
                obtain ⟨vss, hvl, hown, hIs⟩ := (HL.out.kfr HK3.out hblt).kp (Kp.alloc _ _ _ (.cells [.int .i64 y0, .int .i64 y1, .int .i64 y2].toArray 78))
                have HXE := Lib.hid (is_step hx0 (Kp.alloc AA.heap.size [] (V3.setCell ⟨V1.heap.size, 2, none⟩ (.int .i64 y2)) (.cells [.int .i64 y0, .int .i64 y1, .int .i64 y2].toArray 78)))
                have HVL := Lib.hid hvl
                have HO2 := Lib.hid (HAL.out ▸ hown)
                have HOW := Lib.hid hown
                have HIS := Lib.hid hIs
                clear hown hIs hvl hx0
                have hbd := (HK3.out.block (W.heap.size + 2) (heap_lt HD.out) (by omega)).trans HD.out
                have e5 : (V3.setCell ⟨V1.heap.size, 2, none⟩ (.int .i64 y2)).cell? ⟨W.heap.size + 2, 9, none⟩ = some v := by rw [Lib.cell_of_heap hbd]; rfl
                have HBD := Lib.hid hbd
                clear hbd
                go_wp2_with (first | (refine wpList_load_row rfl 78 (.tmp 11) rfl V1.heap.size rfl 78 #[.int .i64 y0, .int .i64 y1, .int .i64 y2] (0, 0) _ HB3.out Tryz.underlying78 rfl size78 ?_) | (at_builtin; refine wpList_append_own _ rfl (.tmp 125) (.tmp 127) 27 rfl AA.heap.size 78 i00 (.agg #[.int .i64 0, .int .i64 0, .int .i64 0]) 3 24 Tryz.underlying27 hi hz0 hz1 hz2 rfl (by decide) _ k vss.flatten rfl HO2.out ⟨V3.heap.size, 0, none⟩ 1 1 [.int .i64 y0, .int .i64 y1, .int .i64 y2] rfl rfl ?c1 ?c2 ?c3 ?c4 ?c5 ?_))
                case c1 => rw [show V3.heap.size = (V3.setCell ⟨V1.heap.size, 2, none⟩ (.int .i64 y2)).heap.size by simp]; exact lit_cells (V3.setCell ⟨V1.heap.size, 2, none⟩ (.int .i64 y2)) [.int .i64 y0, .int .i64 y1, .int .i64 y2].toArray 78
                case c2 => intro u hu; simp only [List.mem_cons, List.not_mem_nil, or_false] at hu; rcases hu with rfl | rfl | rfl <;> rfl
                case c3 => unfold maxLen; omega
                case c4 => omega
                case c5 => have hq : (V3.setCell ⟨V1.heap.size, 2, none⟩ (.int .i64 y2)).heap.size = V3.heap.size := by simp
                           simp; omega
                intro v1 W3 hown1 hgrow1 _
                obtain ⟨q1, q2, rfl⟩ := Joins.ownsRow_form hown1 (by omega)
                have HL3 := Lib.hid (Lst.push HVL.out HOW.out HIS.out HXE.out hgrow1 (by rw [HAL.out, hsA]; exact hown1) (by decide))
                have HFA := Lib.hid ((HF.out.trans HK3.out).alloc (.cells [.int .i64 y0, .int .i64 y1, .int .i64 y2].toArray 78))
                have HF3 := Lib.hid (HFA.out.grown hgrow1 HO2.out)
                have HR3 := Lib.hid ((HQ3.out.alloc (.cells [.int .i64 y0, .int .i64 y1, .int .i64 y2].toArray 78)).grown hblt hgrow1 HO2.out)
                have HA := Lib.hid ((Below.heap_alloc (V3.setCell ⟨V1.heap.size, 2, none⟩ (.int .i64 y2)) (.cells [.int .i64 y0, .int .i64 y1, .int .i64 y2].toArray 78) _ (heap_lt HBD.out)).trans HBD.out)
                have hd3 := grown_keep hgrow1 HO2.out HA.out (by decide)
                have hj1 := (HK3.out.block W.heap.size (heap_lt HJ.out) (by omega)).trans HJ.out
                have hj2 := (Below.heap_alloc (V3.setCell ⟨V1.heap.size, 2, none⟩ (.int .i64 y2)) (.cells [.int .i64 y0, .int .i64 y1, .int .i64 y2].toArray 78) _ (heap_lt hj1)).trans hj1
                have hj3 := grown_keep hgrow1 HO2.out hj2 (by decide)
                have e6 : W3.cell? ⟨W.heap.size + 2, 9, none⟩ = some v := by rw [Lib.cell_of_heap hd3]; rfl
                have f6 := Lib.frozen_of_heap hd3 9
                have HD4 := Lib.hid (show (W3.setCell ⟨W.heap.size + 2, 9, none⟩ (.slice (some ⟨q1, 0, none⟩) (k + 1) q2)).heap[W.heap.size + 2]? = some (.cells #[.slice a0 l0 c0, .slice a1 l1 c1, .slice a2 l2 c2, .slice a3 l3 c3, .string x4, .slice a5 l5 c5, .slice a6 l6 c6, .slice a7 l7 c7, .slice a8 l8 c8, .slice (some ⟨q1, 0, none⟩) (k + 1) q2, .int .i64 0, .int .i64 0] 29 (0, 0)) from heap_set (j := 9) (.slice (some ⟨q1, 0, none⟩) (k + 1) q2) hd3)
                have HJ4 := Lib.hid ((setCell_rest W3 ⟨W.heap.size + 2, 9, none⟩ (.slice (some ⟨q1, 0, none⟩) (k + 1) q2) W.heap.size (by simp)).trans hj3)
                have HL4 := Lib.hid (HL3.out.kp (Kp.set (o := 9) hd3 (by decide) (.slice (some ⟨q1, 0, none⟩) (k + 1) q2)) : Lst _ _ _ _ (W3.setCell ⟨W.heap.size + 2, 9, none⟩ (.slice (some ⟨q1, 0, none⟩) (k + 1) q2)) _ _)
                have HF4 := Lib.hid (HF3.out.set (p := ⟨W.heap.size + 2, 9, none⟩) (.inr (by show _ ≤ W.heap.size + 2; omega)) (.slice (some ⟨q1, 0, none⟩) (k + 1) q2))
                have HR4 := Lib.hid (HR3.out.set (q := W.heap.size + 2) (o := 9) (by omega) (.slice (some ⟨q1, 0, none⟩) (k + 1) q2))
                have hkp : Kp AA.heap.size [3, 9, 53, 56, 58, 61, 90, 127] wr (W3.setCell ⟨W.heap.size + 2, 9, none⟩ (.slice (some ⟨q1, 0, none⟩) (k + 1) q2)) := (((Kp.of HK3.out hblt).trans (Kp.alloc _ _ _ (.cells [.int .i64 y0, .int .i64 y1, .int .i64 y2].toArray 78))).trans (Kp.grown hgrow1 HO2.out (by decide))).trans (Kp.set (o := 9) hd3 (by decide) _)
                have HV0 := Lib.hid (row_step HW0.out (hkp.sub (by decide)) (Nat.le_refl _) (fun _ h => h))
                have HV1 := Lib.hid (row_step HW1.out (hkp.sub (by decide)) (Nat.le_refl _) (fun _ h => h))
                have HV2 := Lib.hid (row_step HW2.out (hkp.sub (by decide)) (Nat.le_refl _) (fun _ h => h))
                have HV3 := Lib.hid (row_step HW3.out (hkp.sub (by decide)) (Nat.le_refl _) (fun _ h => h))
                have HV5 := Lib.hid (row_step HW5.out (hkp.sub (by decide)) (Nat.le_refl _) (fun _ h => h))
                have HV6 := Lib.hid (row_step HW6.out (hkp.sub (by decide)) (Nat.le_refl _) (fun _ h => h))
                have HV7 := Lib.hid (row_step HW7.out (hkp.sub (by decide)) (Nat.le_refl _) (fun _ h => h))
                have HV8 := Lib.hid (row_step HW8.out (hkp.sub (by decide)) (Nat.le_refl _) (fun _ h => h))
                clear hown1 hgrow1 hd3 hj1 hj2 hj3 HA HBD e5 hkp
                go_wp2_with fail
                refine ⟨⟨k + 1, _, u3, _, by omega, by go_num, by simp [HAL.out], HL4.out, HR4.out, HF4.out, ?_, HD4.out, HJ4.out, HV0.out, HV1.out, HV2.out, HV3.out, HV5.out, HV6.out, HV7.out, HV8.out⟩, by simp [intOf]; omega⟩
                have hg := HGO.out
                rw [qGo_one HW.out, HX.out] at hg
                exact hg
            · obtain rfl : cnt = k := by omega
              have HE := Lib.hid (hend (.inl rfl))
              clear hend
              go_wp2_with fail
              go_meet
              exact ⟨acc, t, v, HE.out, HL.out, HR.out, HF.out, HD.out, HJ.out, HW0.out, HW1.out, HW2.out, HW3.out, HW5.out, HW6.out, HW7.out, HW8.out⟩
        case rest =>
          clear HQM HFM HDM HJM HM0 HM1 HM2 HM3 HM5 HM6 HM7 HM8
          obtain ⟨x9, t10, v, hE, hl, hr, hf, hd, hj, hw0, hw1, hw2, hw3, hw5, hw6, hw7, hw8⟩ := hcut
          obtain ⟨a9, c9, rfl⟩ := hl.form
          obtain ⟨l9, hlen9⟩ : ∃ l, x9.length = l := ⟨_, rfl⟩
          rw [hlen9] at hl hd
          have HX9 := Lib.hid (show (dList dJob).q Bs t9 = (x9, t10) from many_q HXM.out (HRL.out.trans hE))
          have HW9 := Lib.hid (hl.row hlen9.symm)
          have HQ := Lib.hid hr
          have HF := Lib.hid hf
          have HD := Lib.hid hd
          have HJ := Lib.hid hj
          have HW0 := Lib.hid hw0
          have HW1 := Lib.hid hw1
          have HW2 := Lib.hid hw2
          have HW3 := Lib.hid hw3
          have HW5 := Lib.hid hw5
          have HW6 := Lib.hid hw6
          have HW7 := Lib.hid hw7
          have HW8 := Lib.hid hw8
          clear hE hl hr hf hd hj hlen9 HXM HRL hcl hw0 hw1 hw2 hw3 hw5 hw6 hw7 hw8
          generalize wc = S10 at *
          have hc := qd_num Bs (W.heap.size + 1) t10 S10 HQ.out
          obtain ⟨⟨x10, t11⟩, hx⟩ : ∃ r, dNum.q Bs t10 = r := ⟨_, rfl⟩
          rw [hx] at hc
          simp only at hc
          have HX10 := Lib.hid hx
          clear hx
          go_wp2_with (go_at_call 53; refine hc.mono ?_)
          rintro e P ⟨vs, rfl, hI, hr, hf⟩
          obtain rfl : vs = [.int .i64 x10] := hI
          simp only [mk1, List.headD_cons]
          have hd := (hf.block _ (heap_lt HD.out) (by omega)).trans HD.out
          have hj := (hf.block _ (heap_lt HJ.out) (by omega)).trans HJ.out
          have e0 : P.cell? ⟨W.heap.size + 2, 10, none⟩ = some (.int .i64 0) := by rw [Lib.cell_of_heap hd]; rfl
          have f0 := Lib.frozen_of_heap hd 10
          have HDn := Lib.hid (show (P.setCell ⟨W.heap.size + 2, 10, none⟩ (.int .i64 x10)).heap[W.heap.size + 2]? = some (.cells #[.slice a0 l0 c0, .slice a1 l1 c1, .slice a2 l2 c2, .slice a3 l3 c3, .string x4, .slice a5 l5 c5, .slice a6 l6 c6, .slice a7 l7 c7, .slice a8 l8 c8, .slice a9 l9 c9, .int .i64 x10, .int .i64 0] 29 (0, 0)) from heap_set (j := 10) (.int .i64 x10) hd)
          have HJn := Lib.hid ((setCell_rest P ⟨W.heap.size + 2, 10, none⟩ (.int .i64 x10) W.heap.size (by simp)).trans hj)
          have HFn := Lib.hid ((HF.out.trans hf).set (p := ⟨W.heap.size + 2, 10, none⟩) (.inr (by show _ ≤ W.heap.size + 2; omega)) (.int .i64 x10))
          have HQn := Lib.hid (hr.set (q := W.heap.size + 2) (o := 10) (by omega) (.int .i64 x10))
          have hsz := HF.out.size
          have hkp : Kp AA.heap.size [3, 9, 53, 56, 58, 61, 78, 90, 127] S10 (P.setCell ⟨W.heap.size + 2, 10, none⟩ (.int .i64 x10)) := (Kp.of hf hblt).trans (Kp.set (o := 10) hd (by decide) (.int .i64 x10))
          have HWn0 := Lib.hid (row_step HW0.out (hkp.sub (by decide)) (Nat.le_refl _) (fun _ h => h))
          have HWn1 := Lib.hid (row_step HW1.out (hkp.sub (by decide)) (Nat.le_refl _) (fun _ h => h))
          have HWn2 := Lib.hid (row_step HW2.out (hkp.sub (by decide)) (Nat.le_refl _) (fun _ h => h))
          have HWn3 := Lib.hid (row_step HW3.out (hkp.sub (by decide)) (Nat.le_refl _) (fun _ h => h))
          have HWn5 := Lib.hid (row_step HW5.out (hkp.sub (by decide)) (Nat.le_refl _) (fun _ h => h))
          have HWn6 := Lib.hid (row_step HW6.out (hkp.sub (by decide)) (Nat.le_refl _) (fun _ h => h))
          have HWn7 := Lib.hid (row_step HW7.out (hkp.sub (by decide)) (Nat.le_refl _) (fun _ h => h))
          have HWn8 := Lib.hid (row_step HW8.out (hkp.sub (by decide)) (Nat.le_refl _) (fun _ h => h))
          have HWn9 := Lib.hid (row_step HW9.out (hkp.sub (by decide)) (Nat.le_refl _) (fun _ h => h))
          clear hc hr hf hd hj HD HJ HF HQ hkp hsz HW0 HW1 HW2 HW3 HW5 HW6 HW7 HW8 HW9
          go_wp2_with fail
          generalize P.setCell ⟨W.heap.size + 2, 10, none⟩ (.int .i64 x10) = S11 at *
          clear e0 f0
          have HD := HDn
          have HJ := HJn
          have HF := HFn
          have HQ := HQn
          clear HDn HJn HFn HQn
          have HW0 := HWn0
          clear HWn0
          have HW1 := HWn1
          clear HWn1
          have HW2 := HWn2
          clear HWn2
          have HW3 := HWn3
          clear HWn3
          have HW5 := HWn5
          clear HWn5
          have HW6 := HWn6
          clear HWn6
          have HW7 := HWn7
          clear HWn7
          have HW8 := HWn8
          clear HWn8
          have HW9 := HWn9
          clear HWn9
          have hc := qd_num Bs (W.heap.size + 1) t11 S11 HQ.out
          obtain ⟨⟨x11, t12⟩, hx⟩ : ∃ r, dNum.q Bs t11 = r := ⟨_, rfl⟩
          rw [hx] at hc
          simp only at hc
          have HX11 := Lib.hid hx
          clear hx
          go_wp2_with (go_at_call 53; refine hc.mono ?_)
          rintro e P ⟨vs, rfl, hI, hr, hf⟩
          obtain rfl : vs = [.int .i64 x11] := hI
          simp only [mk1, List.headD_cons]
          have hd := (hf.block _ (heap_lt HD.out) (by omega)).trans HD.out
          have hj := (hf.block _ (heap_lt HJ.out) (by omega)).trans HJ.out
          have e0 : P.cell? ⟨W.heap.size + 2, 11, none⟩ = some (.int .i64 0) := by rw [Lib.cell_of_heap hd]; rfl
          have f0 := Lib.frozen_of_heap hd 11
          have HDn := Lib.hid (show (P.setCell ⟨W.heap.size + 2, 11, none⟩ (.int .i64 x11)).heap[W.heap.size + 2]? = some (.cells #[.slice a0 l0 c0, .slice a1 l1 c1, .slice a2 l2 c2, .slice a3 l3 c3, .string x4, .slice a5 l5 c5, .slice a6 l6 c6, .slice a7 l7 c7, .slice a8 l8 c8, .slice a9 l9 c9, .int .i64 x10, .int .i64 x11] 29 (0, 0)) from heap_set (j := 11) (.int .i64 x11) hd)
          have HJn := Lib.hid ((setCell_rest P ⟨W.heap.size + 2, 11, none⟩ (.int .i64 x11) W.heap.size (by simp)).trans hj)
          have HFn := Lib.hid ((HF.out.trans hf).set (p := ⟨W.heap.size + 2, 11, none⟩) (.inr (by show _ ≤ W.heap.size + 2; omega)) (.int .i64 x11))
          have HQn := Lib.hid (hr.set (q := W.heap.size + 2) (o := 11) (by omega) (.int .i64 x11))
          have hsz := HF.out.size
          have hkp : Kp AA.heap.size [3, 9, 53, 56, 58, 61, 78, 90, 127] S11 (P.setCell ⟨W.heap.size + 2, 11, none⟩ (.int .i64 x11)) := (Kp.of hf hblt).trans (Kp.set (o := 11) hd (by decide) (.int .i64 x11))
          have HWn0 := Lib.hid (row_step HW0.out (hkp.sub (by decide)) (Nat.le_refl _) (fun _ h => h))
          have HWn1 := Lib.hid (row_step HW1.out (hkp.sub (by decide)) (Nat.le_refl _) (fun _ h => h))
          have HWn2 := Lib.hid (row_step HW2.out (hkp.sub (by decide)) (Nat.le_refl _) (fun _ h => h))
          have HWn3 := Lib.hid (row_step HW3.out (hkp.sub (by decide)) (Nat.le_refl _) (fun _ h => h))
          have HWn5 := Lib.hid (row_step HW5.out (hkp.sub (by decide)) (Nat.le_refl _) (fun _ h => h))
          have HWn6 := Lib.hid (row_step HW6.out (hkp.sub (by decide)) (Nat.le_refl _) (fun _ h => h))
          have HWn7 := Lib.hid (row_step HW7.out (hkp.sub (by decide)) (Nat.le_refl _) (fun _ h => h))
          have HWn8 := Lib.hid (row_step HW8.out (hkp.sub (by decide)) (Nat.le_refl _) (fun _ h => h))
          have HWn9 := Lib.hid (row_step HW9.out (hkp.sub (by decide)) (Nat.le_refl _) (fun _ h => h))
          clear hc hr hf hd hj HD HJ HF HQ hkp hsz HW0 HW1 HW2 HW3 HW5 HW6 HW7 HW8 HW9
          have HD := HDn
          have HJ := HJn
          have HF := HFn
          have HQ := HQn
          clear HDn HJn HFn HQn
          have HW0 := HWn0
          clear HWn0
          have HW1 := HWn1
          clear HWn1
          have HW2 := HWn2
          clear HWn2
          have HW3 := HWn3
          clear HWn3
          have HW5 := HWn5
          clear HWn5
          have HW6 := HWn6
          clear HWn6
          have HW7 := HWn7
          clear HWn7
          have HW8 := HWn8
          clear HWn8
          have HW9 := HWn9
          clear HWn9
          have hRT : RT = (⟨x0, x1, x2, x3, x4, x5, x6, x7, x8, x9, x10, x11⟩, t12) := by
            rw [← HRQ.out]
            exact iso_q (pair_q (pair_q (pair_q (pair_q (pair_q (pair_q (pair_q (pair_q (pair_q (pair_q (pair_q HX0.out HX1.out) HX2.out) HX3.out) HX4.out) HX5.out) HX6.out) HX7.out) HX8.out) HX9.out) HX10.out) HX11.out)
          obtain ⟨X, hX⟩ : ∃ X : ImgD, (⟨x0, x1, x2, x3, x4, x5, x6, x7, x8, x9, x10, x11⟩ : ImgD) = X := ⟨_, rfl⟩
          have hrd : readDoc Bs = (X, t12) := by rw [HRT.out, hRT, hX]
          have hfit : (layOf X).full = false := by have := readDoc_fits Bs; rw [hrd] at this; exact this
          have hIm : shImg.Is (SB AA.heap.size imgTs (P.setCell ⟨W.heap.size + 2, 11, none⟩ (.int .i64 x11))) (P.setCell ⟨W.heap.size + 2, 11, none⟩ (.int .i64 x11)) [.slice a0 l0 c0, .slice a1 l1 c1, .slice a2 l2 c2, .slice a3 l3 c3, .string x4, .slice a5 l5 c5, .slice a6 l6 c6, .slice a7 l7 c7, .slice a8 l8 c8, .slice a9 l9 c9, .int .i64 x10, .int .i64 x11] X := by
            rw [← hX]
            exact img_is.2 ⟨_, _, _, _, _, _, _, _, _, _, _, _, _, _, _, _, _, _, _, _, _, _, _, _, _, _, _, rfl, (row_wide HW0.out (show ∀ t, t ∈ ([53, 9] : List TypeId) → t ∈ imgTs by decide)), (row_wide HW1.out (show ∀ t, t ∈ ([56, 58, 3, 9] : List TypeId) → t ∈ imgTs by decide)), (row_wide HW2.out (show ∀ t, t ∈ ([61, 127] : List TypeId) → t ∈ imgTs by decide)), (row_wide HW3.out (show ∀ t, t ∈ ([3] : List TypeId) → t ∈ imgTs by decide)), (row_wide HW5.out (show ∀ t, t ∈ ([3] : List TypeId) → t ∈ imgTs by decide)), (row_wide HW6.out (show ∀ t, t ∈ ([3] : List TypeId) → t ∈ imgTs by decide)), (row_wide HW7.out (show ∀ t, t ∈ ([90] : List TypeId) → t ∈ imgTs by decide)), (row_wide HW8.out (show ∀ t, t ∈ ([90] : List TypeId) → t ∈ imgTs by decide)), (row_wide HW9.out (show ∀ t, t ∈ ([78] : List TypeId) → t ∈ imgTs by decide))⟩
          have hlen0 := lay_len X
          have hly := vlay_any (P.setCell ⟨W.heap.size + 2, 11, none⟩ (.int .i64 x11)) _ X (shImg.wide (fun k ⟨_, cs, t, fz, h2, _⟩ => heap_lt h2) hIm) (by rw [doc_lay X hfit]; exact Nat.le_trans hlen0 (by omega))
          rw [doc_lay X hfit] at hly
          have HIM := Lib.hid hIm
          have HRD := Lib.hid hrd
          have HFIT := Lib.hid hfit
          clear hRT hX hrd hfit hIm HRT HRQ HX0 HX1 HX2 HX3 HX4 HX5 HX6 HX7 HX8 HX9 HX10 HX11 HW0 HW1 HW2 HW3 HW5 HW6 HW7 HW8 HW9
          go_wp2_with (first | (refine wpList_load_row rfl 29 (.tmp 5) rfl (W.heap.size + 2) rfl 29 #[.slice a0 l0 c0, .slice a1 l1 c1, .slice a2 l2 c2, .slice a3 l3 c3, .string x4, .slice a5 l5 c5, .slice a6 l6 c6, .slice a7 l7 c7, .slice a8 l8 c8, .slice a9 l9 c9, .int .i64 x10, .int .i64 x11] (0, 0) _ HD.out Tryz.underlying29 rfl size29q ?_) | (go_at_call 10; refine hly.mono ?_))
          first | rintro e V ⟨hla, hb⟩ | rintro e V hla hb
          rcases hla with ⟨hful, _⟩ | ⟨hful, g, cap2, rfl, hown⟩
          · rw [HFIT.out] at hful; cases hful
          obtain ⟨L, hL⟩ : ∃ L, (layOf X).bs = L := ⟨_, rfl⟩
          rw [hL] at hown ⊢
          have HLL := Lib.hid hL
          have hQ := HQ.out.kept (W' := V) (fun k hk => hb.block k (by have := HF.out.size; omega))
          have hD := (hb.block _ (heap_lt HD.out)).trans HD.out
          have hJ := (hb.block _ (heap_lt HJ.out)).trans HJ.out
          have hF : KFr (W.heap.size + 1) AA V := HF.out.trans (below_all hb)
          have HIM2 := Lib.hid (shImg.keep (W' := V) (fun k ⟨_, cs, t, fz, h2, _⟩ => hb.block k (heap_lt h2)) HIM.out)
          have k1 := conv_bytes (bytes_of_own hown)
          have k2 := conv_bytes (HBS.out.keep (W' := V) (fun k hk => hF.block k (by omega) (by omega)))
          obtain ⟨a99, n99, cap99, g0, g1, g2, g3, g4, -⟩ := hQ.cells
          have HD := Lib.hid hD
          have HJ := Lib.hid hJ
          have HF := Lib.hid hF
          have hsz := hb.size
          have hszF := hF.size
          clear hly hful hown hb hQ hD hJ hF g0 g1 g3 g4 HQ hL
          have hyes := fun h : readOk Bs = true => doc_yes h
          rw [HRD.out] at hyes
          simp only [HLL.out] at hyes
          have hno := fun h : readOk Bs = false => doc_no h
          rw [HRD.out] at hno
          simp only [HLL.out] at hno
          cases hw : t12.wrong with
          | true =>
            rw [hw] at g2
            have HNO := Lib.hid (show readOk Bs = false by
              cases h : readOk Bs with
              | false => rfl
              | true => have := (hyes h).1; rw [hw] at this; cases this)
            clear hyes hno hw k1 k2
            have HJ9 := Lib.hid (setRow_same #[.slice none 0 0, .slice none 0 0, .slice none 0 0, .slice none 0 0, .string ⟨#[]⟩, .slice none 0 0, .slice none 0 0, .slice none 0 0, .slice none 0 0, .slice none 0 0, .int .i64 0, .int .i64 0] HJ.out)
            go_upto_region 37 with fail
            go_step
            refine wpList_buildTo rfl 29 #[] rfl (some 156) rfl #[.slice none 0 0, .slice none 0 0, .slice none 0 0, .slice none 0 0, .string ⟨#[]⟩, .slice none 0 0, .slice none 0 0, .slice none 0 0, .slice none 0 0, .slice none 0 0, .int .i64 0, .int .i64 0] (by kernel_rfl) ?_
            simp only [Act.put, List.setIfInBounds_toArray, List.set_cons_zero, List.set_cons_succ]
            refine wpList_store_rowTo rfl 29 (.tmp 2) (.tmp 156) rfl rfl W.heap.size #[.slice none 0 0, .slice none 0 0, .slice none 0 0, .slice none 0 0, .string ⟨#[]⟩, .slice none 0 0, .slice none 0 0, .slice none 0 0, .slice none 0 0, .slice none 0 0, .int .i64 0, .int .i64 0] (by kernel_rfl) (by kernel_rfl) 29 #[.slice none 0 0, .slice none 0 0, .slice none 0 0, .slice none 0 0, .string ⟨#[]⟩, .slice none 0 0, .slice none 0 0, .slice none 0 0, .slice none 0 0, .slice none 0 0, .int .i64 0, .int .i64 0] HJ.out size29q rfl zero_one29 ?_
            go_step
            go_step
            go_step
            go_step
            go_step
            go_step
            go_step
            go_step
            refine bodyPost_ret (by exact results_cell_tmp (p := 2) (q := 3) (ty := 29) rfl _ _ W.heap.size 29 #[.slice none 0 0, .slice none 0 0, .slice none 0 0, .slice none 0 0, .string ⟨#[]⟩, .slice none 0 0, .slice none 0 0, .slice none 0 0, .slice none 0 0, .slice none 0 0, .int .i64 0, .int .i64 0] (0, 0) _ rfl HJ9.out Tryz.underlying29 rfl size29q) rfl ?_
            exact ⟨.inr ⟨HNO.out, by simp⟩, below_row (HF.out.below (Nat.le_succ _) HBA.out (by omega)) (Nat.le_refl _) _⟩
          | false =>
            rw [hw] at g2
            by_cases hLB : L = Bs
            · subst hLB
              have hOk : readOk L = true := by
                cases h : readOk L with
                | true => rfl
                | false => exact absurd rfl (hno h)
              have HOK := Lib.hid hOk
              have HXE := Lib.hid (hyes hOk).2.1
              have hcmp : ((⟨L.toArray⟩ : ByteArray).toList != (⟨L.toArray⟩ : ByteArray).toList) = false := by simp
              clear hyes hno hOk hw
              have HJ9 := Lib.hid (setRow_same #[.slice a0 l0 c0, .slice a1 l1 c1, .slice a2 l2 c2, .slice a3 l3 c3, .string x4, .slice a5 l5 c5, .slice a6 l6 c6, .slice a7 l7 c7, .slice a8 l8 c8, .slice a9 l9 c9, .int .i64 x10, .int .i64 x11] HJ.out)
              have hone : (#[.slice a0 l0 c0, .slice a1 l1 c1, .slice a2 l2 c2, .slice a3 l3 c3, .string x4, .slice a5 l5 c5, .slice a6 l6 c6, .slice a7 l7 c7, .slice a8 l8 c8, .slice a9 l9 c9, .int .i64 x10, .int .i64 x11] : Array Value).all (·.oneCell') = true := by simp [Value.oneCell']
              have HIM3 := Lib.hid (shImg.wide (S' := fun k => W.heap.size ≤ k ∧ k < (V.setRow W.heap.size #[.slice a0 l0 c0, .slice a1 l1 c1, .slice a2 l2 c2, .slice a3 l3 c3, .string x4, .slice a5 l5 c5, .slice a6 l6 c6, .slice a7 l7 c7, .slice a8 l8 c8, .slice a9 l9 c9, .int .i64 x10, .int .i64 x11]).heap.size) (fun k ⟨h1, cs, t, fz, h2, _⟩ => ⟨by omega, by rw [size_setRow]; exact Nat.lt_of_lt_of_le (heap_lt h2) hsz⟩) (shImg.keep (W' := V.setRow W.heap.size #[.slice a0 l0 c0, .slice a1 l1 c1, .slice a2 l2 c2, .slice a3 l3 c3, .string x4, .slice a5 l5 c5, .slice a6 l6 c6, .slice a7 l7 c7, .slice a8 l8 c8, .slice a9 l9 c9, .int .i64 x10, .int .i64 x11]) (fun k ⟨h1, _⟩ => setRow_other _ _ _ _ (by omega)) HIM2.out))
              go_upto_region 38 with fail
              go_step
              refine wpList_load_row rfl 29 (.tmp 5) rfl (W.heap.size + 2) (by kernel_rfl) 29 #[.slice a0 l0 c0, .slice a1 l1 c1, .slice a2 l2 c2, .slice a3 l3 c3, .string x4, .slice a5 l5 c5, .slice a6 l6 c6, .slice a7 l7 c7, .slice a8 l8 c8, .slice a9 l9 c9, .int .i64 x10, .int .i64 x11] (0, 0) _ HD.out Tryz.underlying29 rfl size29q ?_
              simp only [Act.put, List.setIfInBounds_toArray, List.set_cons_zero, List.set_cons_succ]
              refine wpList_store_rowTo rfl 29 (.tmp 2) (.tmp 157) rfl rfl W.heap.size #[.slice a0 l0 c0, .slice a1 l1 c1, .slice a2 l2 c2, .slice a3 l3 c3, .string x4, .slice a5 l5 c5, .slice a6 l6 c6, .slice a7 l7 c7, .slice a8 l8 c8, .slice a9 l9 c9, .int .i64 x10, .int .i64 x11] (by kernel_rfl) (by kernel_rfl) 29 #[.slice none 0 0, .slice none 0 0, .slice none 0 0, .slice none 0 0, .string ⟨#[]⟩, .slice none 0 0, .slice none 0 0, .slice none 0 0, .slice none 0 0, .slice none 0 0, .int .i64 0, .int .i64 0] HJ.out size29q rfl hone ?_
              go_step
              go_step
              go_step
              go_step
              go_step
              go_step
              go_step
              go_step
              refine bodyPost_ret (by exact results_cell_tmp (p := 2) (q := 3) (ty := 29) rfl _ _ W.heap.size 29 #[.slice a0 l0 c0, .slice a1 l1 c1, .slice a2 l2 c2, .slice a3 l3 c3, .string x4, .slice a5 l5 c5, .slice a6 l6 c6, .slice a7 l7 c7, .slice a8 l8 c8, .slice a9 l9 c9, .int .i64 x10, .int .i64 x11] (0, 0) _ rfl HJ9.out Tryz.underlying29 rfl size29q) rfl ?_
              refine ⟨.inl ⟨HOK.out, _, ?_, by rw [← HXE.out]; exact HIM3.out⟩, below_row (HF.out.below (Nat.le_succ _) HBA.out (by omega)) (Nat.le_refl _) _⟩
              simp
            · have HNO := Lib.hid (show readOk Bs = false by
                cases h : readOk Bs with
                | false => rfl
                | true => exact absurd (hyes h).2.2 hLB)
              have hne : (⟨L.toArray⟩ : ByteArray) ≠ ⟨Bs.toArray⟩ := by
                exact fun h => hLB (bytes_inj h)
              obtain ⟨u1, hu1⟩ : ∃ u : ByteArray, (⟨L.toArray⟩ : ByteArray) = u := ⟨_, rfl⟩
              obtain ⟨u2, hu2⟩ : ∃ u : ByteArray, (⟨Bs.toArray⟩ : ByteArray) = u := ⟨_, rfl⟩
              rw [hu1] at hne k1
              rw [hu2] at hne k2
              have hcmp := str_ne hne
              clear hyes hno hw hne hLB hu1 hu2
              have HJ9 := Lib.hid (setRow_same #[.slice none 0 0, .slice none 0 0, .slice none 0 0, .slice none 0 0, .string ⟨#[]⟩, .slice none 0 0, .slice none 0 0, .slice none 0 0, .slice none 0 0, .slice none 0 0, .int .i64 0, .int .i64 0] HJ.out)
              go_upto_region 37 with fail
              go_step
              refine wpList_buildTo rfl 29 #[] rfl (some 156) rfl #[.slice none 0 0, .slice none 0 0, .slice none 0 0, .slice none 0 0, .string ⟨#[]⟩, .slice none 0 0, .slice none 0 0, .slice none 0 0, .slice none 0 0, .slice none 0 0, .int .i64 0, .int .i64 0] (by kernel_rfl) ?_
              simp only [Act.put, List.setIfInBounds_toArray, List.set_cons_zero, List.set_cons_succ]
              refine wpList_store_rowTo rfl 29 (.tmp 2) (.tmp 156) rfl rfl W.heap.size #[.slice none 0 0, .slice none 0 0, .slice none 0 0, .slice none 0 0, .string ⟨#[]⟩, .slice none 0 0, .slice none 0 0, .slice none 0 0, .slice none 0 0, .slice none 0 0, .int .i64 0, .int .i64 0] (by kernel_rfl) (by kernel_rfl) 29 #[.slice none 0 0, .slice none 0 0, .slice none 0 0, .slice none 0 0, .string ⟨#[]⟩, .slice none 0 0, .slice none 0 0, .slice none 0 0, .slice none 0 0, .slice none 0 0, .int .i64 0, .int .i64 0] HJ.out size29q rfl zero_one29 ?_
              go_step
              go_step
              go_step
              go_step
              go_step
              go_step
              go_step
              go_step
              refine bodyPost_ret (by exact results_cell_tmp (p := 2) (q := 3) (ty := 29) rfl _ _ W.heap.size 29 #[.slice none 0 0, .slice none 0 0, .slice none 0 0, .slice none 0 0, .string ⟨#[]⟩, .slice none 0 0, .slice none 0 0, .slice none 0 0, .slice none 0 0, .slice none 0 0, .int .i64 0, .int .i64 0] (0, 0) _ rfl HJ9.out Tryz.underlying29 rfl size29q) rfl ?_
              exact ⟨.inr ⟨HNO.out, by simp⟩, below_row (HF.out.below (Nat.le_succ _) HBA.out (by omega)) (Nat.le_refl _) _⟩
end Go.Proofs.YtoaohoeghlidaaaGreatDoor
