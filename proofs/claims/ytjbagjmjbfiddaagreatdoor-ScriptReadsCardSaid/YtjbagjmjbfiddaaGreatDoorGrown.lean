/-
  The program's digits of bytes.
-/
import Derived.Test.YtjbagjmjbfiddaaGreatDoorDigits
import Derived.Test.YtjbagjmjbfiddaaGreatDoorWrite
import Derived.Test.YtjbagjmjbfiddaaGreatDoorShelf
import Derived.Lib.ConvBytes
namespace Go.Proofs.YtjbagjmjbfiddaaGreatDoor
open Go.ChangeShapes Go.WideShapes Go.ChangeAt Go.RowKit

set_option maxRecDepth 100000 in
theorem and_all : ∀ c : Fin 256, bits BinOp.and IntKind.u8 (c.1 : Int) 15 = ((c.1 % 16 : Nat) : Int) := by decide
theorem and_at {c : Nat} (h : c < 256) : bits BinOp.and IntKind.u8 (c : Int) 15 = ((c % 16 : Nat) : Int) := and_all ⟨c, h⟩
theorem grow_any (B b n : Nat) (N : Int) (hN : N = (n : Int)) (w : World) (hB : B ≤ b) (hbk : w.heap[b]? = some (.cells #[.pointer none, .slice none 0 0] 54 (0, 0))) (hBw : B ≤ w.heap.size) (hn : n ≤ 281474976710656) (h0 : 0 < n) :
    Calls Tryz.prog 32 #[.pointer (some ⟨b, 0, none⟩), .int .i64 N] w fun e w' => e = .returned (.tuple #[]) ∧ ∃ r cap, Bld w' B b (.slice (some ⟨r, 0, none⟩) 0 cap) [] ∧ n ≤ cap ∧ Below B w w' := by
  subst hN
  refine (Tryz.Builder_Grow_fresh_cap B b n w hB hbk hBw hn).mono ?_
  rintro e w' ⟨rfl, ⟨⟨h1, v, h2, h3, h4⟩, hbl⟩, p, cap, h5, h6⟩
  rw [Lib.cell_of_heap h2] at h5
  obtain rfl : v = .slice p 0 cap := by simpa using h5
  refine ⟨rfl, ?_⟩
  rcases h3.2 with ⟨hv, _⟩ | ⟨g, c, cur, hv, _⟩
  · simp at hv; omega
  · simp at hv
    obtain ⟨rfl, rfl⟩ := hv
    exact ⟨g, cap, ⟨h1, h2, h3, h4⟩, h6, hbl⟩
theorem conv_at (w : World) (s : ByteArray) (k : Nat) (h : k < s.size) {w' : World} {fz : Nat × Nat} {g : Nat} (hg : w'.heap[g]? = some (.cells (Lib.bytesCells w 5 s) 5 fz)) : w'.cell? ⟨g, k, none⟩ = some (.int .u8 ((s[k]'h).toNat : Int)) := by
  rw [Lib.cell_of_heap hg]
  have h' : k < s.data.size := h
  unfold Lib.bytesCells
  rw [Array.getElem?_append_left (by simpa using h')]
  rw [Array.getElem?_map]
  have : s.data[k]? = some (s[k]'h) := Array.getElem?_eq_getElem h'
  rw [this]
  rfl
theorem Bld.keep {w w' : World} {B b : Nat} {v : Value} {bs : List Value} (h : Bld w B b v bs) (hk : ∀ k, k < w.heap.size → w'.heap[k]? = w.heap[k]?) : Bld w' B b v bs := by
  obtain ⟨h1, h2, h3, h4⟩ := h
  refine ⟨h1, (hk b (heap_lt h2)).trans h2, ⟨h3.1, ?_⟩, h4⟩
  rcases h3.2 with h5 | ⟨g, cap, cur, hv, hb, hg, hr⟩
  · exact .inl h5
  · exact .inr ⟨g, cap, cur, hv, hb, (hk g (heap_lt hg)).trans hg, hr⟩
theorem own_lt {w : World} {base : Nat} {e : TypeId} {size g : Nat} {l c n : Nat} {xs : List Value} (h : w.ownsRow base e size (.slice (some ⟨g, 0, none⟩) l c) n xs) : g < w.heap.size := by
  rcases h.2 with ⟨h', _⟩ | ⟨g', cap', cur, h', _, hg, _⟩
  · simp at h'
  · simp at h'
    obtain ⟨rfl, _⟩ := h'
    exact heap_lt hg
theorem below_bytes {B : Nat} {w w1 : World} (h : Below B w w1) (hB : B ≤ w1.heap.size) (s : ByteArray) : Below B w (Lib.bytesWorld w1 5 s) := by
  refine h.trans ⟨?_, ?_, ?_, ?_, fun k hk => Lib.bytesWorld_at_old w1 5 s k (by omega)⟩
  all_goals (unfold Lib.bytesWorld World.freeze; split <;> simp [World.alloc, World.drew, -World.alloc_eq, -World.drew_eq])

theorem byte_at (B b r cap n : Nat) (bs : List Value) (c : Int) (w : World) (hn : bs.length = n) (h : Bld w B b (.slice (some ⟨r, 0, none⟩) n cap) bs) (hroom : n + 1 ≤ cap) (hBw : B ≤ w.heap.size) :
    Calls Tryz.prog 33 #[.pointer (some ⟨b, 0, none⟩), .int .u8 c] w fun e w' => e = .returned .nilIface ∧ Bld w' B b (.slice (some ⟨r, 0, none⟩) (n + 1) cap) (bs ++ [.int .u8 c]) ∧ Below B w w' ∧ Kept w w' b (some r) := by
  subst hn
  exact byte_room B b r cap bs c w h hroom hBw

set_option maxHeartbeats 800000 in
set_option maxRecDepth 100000 in
theorem phex_any (s : ByteArray) (hs : s.size ≤ 1000000) (B : Nat) (w : World) (hB : B ≤ w.heap.size) :
    Calls Tryz.prog 16 #[.string s] w fun e w' => e = .returned (.string (hexOf s)) ∧ Below B w w' := by
  by_cases h2 : s.toList = []
  · have b2 : (s.toList == []) = true := by rw [h2]; rfl
    have hr : hexOf s = ⟨#[45]⟩ := by unfold hexOf; rw [if_pos h2]
    rw [hr]
    clear hr h2
    go_enter Tryz.func16, Tryz.ntmps16
    go_wp2_with fail
    go_ret
    exact ⟨rfl, Below.refl _ _⟩
  · have b2 : (s.toList == []) = false := by rw [← Bool.not_eq_true]; simpa using h2
    have hr : hexOf s = ⟨(hexes s s.size).toArray⟩ := by unfold hexOf; rw [if_neg h2]
    generalize hR : hexOf s = R
    rw [hr] at hR
    have HR := Lib.hid hR
    have s0 : 0 < s.size := by
      rcases Nat.eq_zero_or_pos s.size with h | h
      · exact absurd (show s.toList = [] by rw [ByteArray.toList_eq]; exact List.length_eq_zero_iff.mp h) h2
      · exact h
    clear hR hr h2
    have hw2 : IntKind.i64.wrap (2 * (s.size : Int)) = ((2 * s.size : Nat) : Int) := (IntWalk.i64_in _ (by omega)).trans (by omega)
    go_enter Tryz.func16, Tryz.ntmps16
    go_wp2_with (go_at_call 32; refine (grow_any B w.heap.size (2 * s.size) _ (by omega) _ hB (heap_alloc_new w _) (by simp; omega) (by omega) (by omega)).mono ?_)
    rintro e w1 ⟨rfl, r, cap, hbld, hcap, hb1⟩
    have hb1 := ((RowKit.Below.refl B w).alloc hB (.cells #[.pointer none, .slice none 0 0] 54)).trans hb1
    have kc := Lib.run_convert_string_bytes (P := Tryz.prog) w1 9 49 5 s Tryz.underlying9 Tryz.underlying49 Tryz.underlying5
    have hbs : B ≤ w1.heap.size := Nat.le_trans hB (Nat.le_of_lt (heap_lt hbld.box))
    go_wp2_with fail
    have hbb := below_bytes hb1 hbs s
    have hkeep := hbld.keep (w' := Lib.bytesWorld w1 5 s) (fun k hk => Lib.bytesWorld_at_old w1 5 s k hk)
    have hnew := Lib.bytesWorld_at_new w1 5 s
    have hat : ∀ (k : Nat) (h : k < s.size) (w' : World), w'.heap[w1.heap.size]? = (Lib.bytesWorld w1 5 s).heap[w1.heap.size]? → w'.cell? ⟨w1.heap.size, k, none⟩ = some (.int .u8 ((s[k]'h).toNat : Int)) := fun k h w' hw => conv_at w1 s k h (hw.trans hnew)
    have hrg : r < w1.heap.size := own_lt hbld.own
    have hbg : w.heap.size < w1.heap.size := heap_lt hbld.box
    have hg0 := heap_lt hnew
    have hBb := hbld.low

    clear kc hbld hb1 hnew hbs
    generalize (Lib.bytesWorld w1 5 s) = W0 at *
    generalize grownCap w1 s.size 0 5 = gc at *
    generalize w1.heap.size = g at *
    generalize w.heap.size = b at *
    generalize hobj : W0.heap[g]? = obj at *
    have HAT := Lib.hid hat
    clear hat
    go_loopw [15] (fun i wr => ∃ k : Nat, k ≤ s.size ∧ i = .int .i64 k ∧ Bld wr B b (.slice (some ⟨r, 0, none⟩) (2 * k) cap) (Lib.byteCells (hexes s k)) ∧ Below B w wr ∧ g < wr.heap.size ∧ wr.heap[g]? = obj) (fun i _ => s.size - (intOf i).toNat)
    case atStart => exact ⟨0, Nat.zero_le _, rfl, hkeep, hbb, hg0, hobj⟩
    case round =>
      clear hkeep hbb hobj hg0
      obtain ⟨k, hk, rfl, hbl, hb, hgw, ho⟩ := hrel
      have HL := Lib.hid hbl
      have HB := Lib.hid hb
      have HG := Lib.hid ho
      clear hbl hb ho
      by_cases hlt : k < s.size
      · have hc0 := HAT.out k hlt wr HG.out
        have i0 : (k : Int) < (s.size : Int) := by omega
        have i1 : (0 : Int) ≤ (k : Int) := by omega
        obtain ⟨c, hc⟩ : ∃ c : Nat, c = (s[k]'hlt).toNat := ⟨_, rfl⟩
        have cb : c < 256 := by rw [hc]; exact (s[k]'hlt).toNat_lt
        rw [← hc] at hc0
        have es : (sat s k).toNat = c := by simp [sat, hlt, hc]
        obtain ⟨p, hp⟩ : ∃ p : Nat, c / 16 = p := ⟨_, rfl⟩
        obtain ⟨q, hq⟩ : ∃ q : Nat, c % 16 = q := ⟨_, rfl⟩
        have pb : p < 16 := by omega
        have qb : q < 16 := by omega
        have d1 := and_at cb
        rw [hq] at d1
        have d2 : (p : Int) < 16 := by omega
        have d3 : (q : Int) < 16 := by omega
        have d4 : ((p : Int)).toNat = p := by omega
        have d5 : ((q : Int)).toNat = q := by omega
        have d6 : (0 : Int) ≤ (q : Int) := by omega
        have d9 : (0 : Int) ≤ (p : Int) := by omega
        have d7 : ∀ h', (((⟨#[48, 49, 50, 51, 52, 53, 54, 55, 56, 57, 97, 98, 99, 100, 101, 102]⟩ : ByteArray)[c / 16]'h').toNat : Int) = hx p := by subst hp; exact sixteen_at (c / 16) pb
        have d8 : ∀ h', (((⟨#[48, 49, 50, 51, 52, 53, 54, 55, 56, 57, 97, 98, 99, 100, 101, 102]⟩ : ByteArray)[q]'h').toNat : Int) = hx q := sixteen_at q qb
        have HP := Lib.hid hp
        have HQ := Lib.hid hq
        clear hp hq hc
        have hlen : (Lib.byteCells (hexes s k)).length = 2 * k := by rw [Lib.byteCells_length, hexes_len]
        have hBs : B ≤ wr.heap.size := Nat.le_trans hBb (Nat.le_of_lt (heap_lt HL.out.box))
        go_wp2_with fail
        refine (byte_at B b r cap (2 * k) _ (hx p) wr hlen HL.out (by omega) hBs).mono ?_
        rintro e w2 ⟨rfl, h2, b2', k2⟩
        have hg2 : w2.heap[g]? = obj := (k2.block g hgw (by omega) (by simp; omega)).trans HG.out
        have hb2 := HB.out.trans b2'
        have hs2 := k2.size
        have HL2 := Lib.hid h2
        have HG2 := Lib.hid hg2
        have HB2 := Lib.hid hb2
        clear h2 b2' k2 hg2 hb2 hc0
        go_wp2_with fail
        refine (byte_at B b r cap (2 * k + 1) _ (hx q) w2 (by rw [List.length_append, hlen]; rfl) HL2.out (by omega) (by omega)).mono ?_
        rintro e w3 ⟨rfl, h3, b3', k3⟩
        have hg3 : w3.heap[g]? = obj := (k3.block g (by omega) (by omega) (by simp; omega)).trans HG2.out
        have hb3 := HB2.out.trans b3'
        have hs3 := k3.size
        have h3' : Bld w3 B b (.slice (some ⟨r, 0, none⟩) (2 * (k + 1)) cap) (Lib.byteCells (hexes s (k + 1))) := by
          rw [hexes_cells s k p q (by rw [es]; exact HP.out) (by rw [es]; exact HQ.out) pb qb]
          rw [show 2 * (k + 1) = 2 * k + 1 + 1 by omega]
          simpa using h3

        have HL3 := Lib.hid h3'
        have HG3 := Lib.hid hg3
        have HB3 := Lib.hid hb3
        clear h3 h3' b3' k3 hg3 hb3
        go_wp2_with fail
        exact ⟨⟨k + 1, by omega, by go_num, HL3.out, HB3.out, by omega, HG3.out⟩, by simp [intOf]; omega⟩
      · obtain rfl : k = s.size := by omega
        have hBs : B ≤ wr.heap.size := Nat.le_trans hBb (Nat.le_of_lt (heap_lt HL.out.box))
        go_wp2_with (go_at_call 27; refine (Tryz.Builder_String_any B b (hexes s s.size) wr (.inr HL.out.at) hBs).mono ?_)
        rintro e w2 ⟨rfl, b2'⟩
        have hb2 := HB.out.trans b2'
        go_wp2_with fail
        go_ret
        exact ⟨by rw [← HR.out]; rfl, hb2⟩
end Go.Proofs.YtjbagjmjbfiddaaGreatDoor
