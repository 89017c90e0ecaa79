/-
  The document's digits of bytes.
-/
import Derived.Test.YtjbagjmjbfiddaaGreatDoorRead
import Derived.Test.YtjbagjmjbfiddaaGreatDoorUpto
namespace Go.Proofs.YtjbagjmjbfiddaaGreatDoor
open Go.ChangeShapes Go.WideShapes Go.ChangeAt Go.RowKit

/-- the digits of the first k bytes -/
def hexes (s : ByteArray) : Nat → List UInt8
  | 0 => []
  | k + 1 => hexes s k ++ [UInt8.ofNat (hx ((sat s k).toNat / 16)).toNat, UInt8.ofNat (hx ((sat s k).toNat % 16)).toNat]
def hexOf (s : ByteArray) : ByteArray := if s.toList = [] then ⟨#[45]⟩ else ⟨(hexes s s.size).toArray⟩

theorem hexes_len (s : ByteArray) : ∀ k, (hexes s k).length = 2 * k
  | 0 => rfl
  | k + 1 => by simp [hexes, hexes_len s k]; omega
theorem hx_bd {k : Nat} (h : k < 16) : 48 ≤ hx k ∧ hx k ≤ 102 := by unfold hx; split <;> omega
theorem hx_u8 {k : Nat} (h : k < 16) : ((UInt8.ofNat (hx k).toNat).toNat : Int) = hx k := by
  have := hx_bd h
  rw [UInt8.toNat_ofNat']
  omega
theorem hexes_cells (s : ByteArray) (k p q : Nat) (hp : (sat s k).toNat / 16 = p) (hq : (sat s k).toNat % 16 = q) (pb : p < 16) (qb : q < 16) :
    Lib.byteCells (hexes s (k + 1)) = Lib.byteCells (hexes s k) ++ [.int .u8 (hx p), .int .u8 (hx q)] := by
  show Lib.byteCells (hexes s k ++ [UInt8.ofNat (hx ((sat s k).toNat / 16)).toNat, UInt8.ofNat (hx ((sat s k).toNat % 16)).toNat]) = _
  rw [Lib.byteCells_append, hp, hq]
  show _ ++ [Value.int .u8 ((UInt8.ofNat (hx p).toNat).toNat : Int), Value.int .u8 ((UInt8.ofNat (hx q).toNat).toNat : Int)] = _
  rw [hx_u8 pb, hx_u8 qb]
theorem two_last {w : World} {x y : Value} {t : TypeId} : (w.alloc (.cells #[x, y] t)).drew.cell? (Addr.add ⟨w.heap.size, 0, none⟩ 0) = some x ∧ (w.alloc (.cells #[x, y] t)).drew.cell? (Addr.add ⟨w.heap.size, 0, none⟩ 1) = some y := by
  have h := heap_alloc_new w (.cells #[x, y] t)
  constructor
  · show (w.alloc (.cells #[x, y] t)).cell? ⟨w.heap.size, 0, none⟩ = some x
    unfold World.cell?
    simp only [h]
    rfl
  · show (w.alloc (.cells #[x, y] t)).cell? ⟨w.heap.size, 1, none⟩ = some y
    unfold World.cell?
    simp only [h]
    rfl

set_option maxHeartbeats 400000 in
set_option maxRecDepth 100000 in
theorem rhex_any (s : ByteArray) (hs : s.size ≤ 1000000) (B : Nat) (w : World) (hB : B ≤ w.heap.size) :
    Calls Tryz.prog 20 #[.string s] w fun e w' => e = .returned (.string (hexOf s)) ∧ Below B w w' := by
  obtain ⟨i00, hi, hz0, hz1, hz2⟩ := info_parts info5
  by_cases h2 : s.toList = []
  · have b2 : (s.toList == []) = true := by rw [h2]; rfl
    have hr : hexOf s = ⟨#[45]⟩ := by unfold hexOf; rw [if_pos h2]
    rw [hr]
    clear hr h2
    go_enter Tryz.func20, Tryz.ntmps20
    go_wp2_with fail
    go_ret
    exact ⟨rfl, Below.refl _ _⟩
  · have b2 : (s.toList == []) = false := by rw [← Bool.not_eq_true]; simpa using h2
    have hr : hexOf s = ⟨(hexes s s.size).toArray⟩ := by unfold hexOf; rw [if_neg h2]
    generalize hR : hexOf s = R
    rw [hr] at hR
    have HR := Lib.hid hR
    clear hR hr h2
    go_enter Tryz.func20, Tryz.ntmps20
    go_wp2_with fail
    go_loopw [3, 4] (fun v i wr => ∃ k : Nat, k ≤ s.size ∧ i = .int .i64 k ∧ wr.ownsRow B 5 1 v (2 * k) (Lib.byteCells (hexes s k)) ∧ Below B w wr) (fun _ i _ => s.size - (intOf i).toNat)
    case atStart => exact ⟨0, Nat.zero_le _, rfl, World.ownsRow_nil _ _ _ _, RowKit.Below.refl _ _⟩
    case round =>
      obtain ⟨k, hk, rfl, how, hb⟩ := hrel
      have HO := Lib.hid how
      have HB := Lib.hid hb
      clear how hb
      by_cases hlt : k < s.size
      · have i0 : (k : Int) < (s.size : Int) := by omega
        have i5 : (0 : Int) ≤ (k : Int) := by omega
        have i6 : ((k : Int)).toNat = k := by omega
        obtain ⟨c, hc⟩ : ∃ c : Nat, c = (s[k]'hlt).toNat := ⟨_, rfl⟩
        have cb : c < 256 := by rw [hc]; exact (s[k]'hlt).toNat_lt
        have e0 : ((s[k]'hlt).toNat : Int) = c := by rw [hc]
        obtain ⟨p, hp⟩ : ∃ p : Nat, c / 16 = p := ⟨_, rfl⟩
        obtain ⟨q, hq⟩ : ∃ q : Nat, c % 16 = q := ⟨_, rfl⟩
        have pb : p < 16 := by omega
        have qb : q < 16 := by omega
        have d0 : IntKind.u8.wrap ((c : Int) / 16) = (p : Int) := by simp [IntKind.wrap, IntKind.signed, IntKind.bits]; omega
        have d1 : ((c : Int).tmod 16) = (q : Int) := by rw [Int.tmod_eq_emod_of_nonneg (by omega)]; omega
        have d2 : (p : Int) < 16 := by omega
        have d3 : (q : Int) < 16 := by omega
        have d4 : ((p : Int)).toNat = p := by omega
        have d5 : ((q : Int)).toNat = q := by omega
        have d6 : (0 : Int) ≤ (q : Int) := by omega
        have d7 : ∀ h', (((⟨#[48, 49, 50, 51, 52, 53, 54, 55, 56, 57, 97, 98, 99, 100, 101, 102]⟩ : ByteArray)[p]'h').toNat : Int) = hx p := sixteen_at p pb
        have d8 : ∀ h', (((⟨#[48, 49, 50, 51, 52, 53, 54, 55, 56, 57, 97, 98, 99, 100, 101, 102]⟩ : ByteArray)[q]'h').toNat : Int) = hx q := sixteen_at q qb
        have HP := Lib.hid hp
        have HQ := Lib.hid hq
        clear hp hq
        have es : (sat s k).toNat = c := by simp [sat, hlt, hc]
        have HC := Lib.hid hc
        clear hc hk
        go_wp2_with fail
        refine AnyK.start 13 (fun _ => True) rfl trivial (fun _ => ?_)
        refine AnyK.take (oi := { dst := _, op := _, type := _, pos := _, after := _, guard := _ }) 0 ?_ rfl (by kernel_rfl) (fun _ _ _ h => h) (Or.inl ⟨by rfl, ?_⟩) trivial ?_
        rotate_left
        · (intro w' _; go_simp; (try simp only [d7, d8]); with_reducible rfl)
        simp only [Act.put, List.setIfInBounds_toArray, List.set_cons_zero, List.set_cons_succ]
        refine AnyK.take (oi := { dst := _, op := _, type := _, pos := _, after := _, guard := _ }) 1 ?_ rfl (by kernel_rfl) (fun _ _ _ h => h) (Or.inl ⟨by rfl, ?_⟩) trivial ?_
        rotate_left
        · (intro w' _; go_simp; (try simp only [d7, d8]); with_reducible rfl)
        simp only [Act.put, List.setIfInBounds_toArray, List.set_cons_zero, List.set_cons_succ]
        refine AnyK.take (oi := { dst := _, op := _, type := _, pos := _, after := _, guard := _ }) 2 ?_ rfl (by kernel_rfl) (fun _ _ _ h => h) (Or.inl ⟨by rfl, ?_⟩) trivial ?_
        rotate_left
        · (intro w' _; go_simp; (try simp only [d7, d8]); with_reducible rfl)
        simp only [Act.put, List.setIfInBounds_toArray, List.set_cons_zero, List.set_cons_succ]
        refine AnyK.take (oi := { dst := _, op := _, type := _, pos := _, after := _, guard := _ }) 3 ?_ rfl (by kernel_rfl) (fun _ _ _ h => h) (Or.inl ⟨by rfl, ?_⟩) trivial ?_
        rotate_left
        · (intro w' _; go_simp; (try simp only [d7, d8]); with_reducible rfl)
        simp only [Act.put, List.setIfInBounds_toArray, List.set_cons_zero, List.set_cons_succ]
        refine AnyK.take (oi := { dst := _, op := _, type := _, pos := _, after := _, guard := _ }) 4 ?_ rfl (by kernel_rfl) (fun _ _ _ h => h) (Or.inl ⟨by rfl, ?_⟩) trivial ?_
        rotate_left
        · (intro w' _; go_simp; (try simp only [d7, d8]); with_reducible rfl)
        simp only [Act.put, List.setIfInBounds_toArray, List.set_cons_zero, List.set_cons_succ]
        refine AnyK.take (oi := { dst := _, op := _, type := _, pos := _, after := _, guard := _ }) 5 ?_ rfl (by kernel_rfl) (fun _ _ _ h => h) (Or.inl ⟨by rfl, ?_⟩) trivial ?_
        rotate_left
        · (intro w' _; go_simp; (try simp only [d7, d8]); with_reducible rfl)
        simp only [Act.put, List.setIfInBounds_toArray, List.set_cons_zero, List.set_cons_succ]
        refine AnyK.take (oi := { dst := _, op := _, type := _, pos := _, after := _, guard := _ }) 6 ?_ rfl (by kernel_rfl) (fun _ _ _ h => h) (Or.inl ⟨by rfl, ?_⟩) trivial ?_
        rotate_left
        · (intro w' _; go_simp; (try simp only [d7, d8]); with_reducible rfl)
        simp only [Act.put, List.setIfInBounds_toArray, List.set_cons_zero, List.set_cons_succ]
        refine AnyK.take (oi := { dst := _, op := _, type := _, pos := _, after := _, guard := _ }) 7 ?_ rfl (by kernel_rfl) (fun _ _ _ h => h) (Or.inl ⟨by rfl, ?_⟩) trivial ?_
        rotate_left
        · (intro w' _; go_simp; (try simp only [d7, d8]); with_reducible rfl)
        simp only [Act.put, List.setIfInBounds_toArray, List.set_cons_zero, List.set_cons_succ]
        refine AnyK.take (oi := { dst := _, op := _, type := _, pos := _, after := _, guard := _ }) 8 ?_ rfl (by kernel_rfl) (fun _ _ _ h => h) (Or.inl ⟨by rfl, ?_⟩) trivial ?_
        rotate_left
        · (intro w' _; go_simp; (try simp only [d7, d8]); with_reducible rfl)
        simp only [Act.put, List.setIfInBounds_toArray, List.set_cons_zero, List.set_cons_succ]
        refine AnyK.take (oi := { dst := _, op := _, type := _, pos := _, after := _, guard := _ }) 9 ?_ rfl (by kernel_rfl) (fun _ _ _ h => h) (Or.inl ⟨by rfl, ?_⟩) trivial ?_
        rotate_left
        · (intro w' _; go_simp; (try simp only [d7, d8]); with_reducible rfl)
        simp only [Act.put, List.setIfInBounds_toArray, List.set_cons_zero, List.set_cons_succ]
        refine AnyK.take (oi := { dst := _, op := _, type := _, pos := _, after := _, guard := _ }) 10 ?_ rfl (by kernel_rfl) (fun _ _ _ h => h) (Or.inl ⟨by rfl, ?_⟩) trivial ?_
        rotate_left
        · (intro w' _; go_simp; (try simp only [d7, d8]); with_reducible rfl)
        simp only [Act.put, List.setIfInBounds_toArray, List.set_cons_zero, List.set_cons_succ]
        refine AnyK.one 11 (by kernel_rfl) rfl (fun KK hK => ?_)
        go_simp
        refine hK _ _ trivial ?_
        clear hK
        refine AnyK.one 12 (by kernel_rfl) rfl (fun KK hK => ?_)
        refine (if_pos (by rfl)).mpr ?_
        have hzz := HB.out.size
        have hbb := (HB.out.alloc (Nat.le_trans hB hzz) (.cells #[.int .u8 (hx p), .int .u8 (hx q)] 5))
        have hbd : Below B w (wr.alloc (.cells #[.int .u8 (hx p), .int .u8 (hx q)] 5)).drew := hbb.drew
        have hod : World.ownsRow (wr.alloc (.cells #[.int .u8 (hx p), .int .u8 (hx q)] 5)).drew B 5 1 u3 (2 * k) (Lib.byteCells (hexes s k)) := (HO.out.alloc _)
        have hcd := two_last (w := wr) (x := .int .u8 (hx p)) (y := .int .u8 (hx q)) (t := 5)
        have hsz : (wr.alloc (.cells #[.int .u8 (hx p), .int .u8 (hx q)] 5)).drew.heap.size = wr.heap.size + 1 := by simp [World.drew]
        have HBD := Lib.hid hbd
        have HOD := Lib.hid hod
        clear hbb hbd hod
        refine wp_append_own _ (.tmp 13) (.tmp 24) 49 rfl B 5 i00 (.int .u8 0) 1 1 Tryz.underlying49 hi hz0 hz1 hz2 rfl (by decide) u3 (2 * k) (Lib.byteCells (hexes s k)) rfl HOD.out ⟨wr.heap.size, 0, none⟩ 2 2 [.int .u8 (hx p), .int .u8 (hx q)] rfl rfl ?c1 ?c2 ?c3 ?c4 ?c5 ?_
        case c1 =>
          intro j u hj
          match j, hj with
          | 0, hj => simp at hj; subst hj; exact hcd.1
          | 1, hj => simp at hj; subst hj; exact hcd.2
        case c2 => intro u hu; simp at hu; rcases hu with rfl | rfl <;> rfl
        case c3 => unfold maxLen; omega
        case c4 => omega
        case c5 => rw [hsz]; omega
        intro v' w1 hown1 hgrow _
        have h1 := HBD.out.grown hgrow (by rw [hsz]; omega) (own_base HO.out)
        have hown2 : w1.ownsRow B 5 1 v' (2 * (k + 1)) (Lib.byteCells (hexes s (k + 1))) := by rw [hexes_cells s k p q (by rw [es]; exact HP.out) (by rw [es]; exact HQ.out) pb qb]; exact hown1
        have H1 := Lib.hid h1
        have H2 := Lib.hid hown2
        clear hown1 hown2 hgrow h1 hcd
        refine hK _ _ trivial ?_
        clear hK
        refine AnyK.late 13 (by kernel_rfl) (by kernel_rfl) rfl (fun KK hK => ?_)
        go_simp
        refine hK _ _ ?_
        clear hK
        refine AnyK.done (by kernel_rfl) ?_ _
        go_wp2_with fail
        refine ⟨⟨k + 1, by omega, by go_num, H2.out, H1.out⟩, by simp [intOf]; omega⟩
      · have hkk : k = s.size := by omega
        subst hkk
        rcases Joins.ownsRow_forms HO.out with ⟨rfl, h0⟩ | ⟨g, c, rfl⟩
        · have kc := fun w : World => Lib.run_convert_nil_bytes (P := Tryz.prog) w 49 9 5 0 Tryz.underlying49 Tryz.underlying5 Tryz.underlying9
          have h00 : s.size = 0 := by omega
          have hr : R = ⟨#[]⟩ := by rw [← HR.out, h00]; rfl
          go_wp2_with fail
          go_ret
          exact ⟨by rw [hr]; rfl, HB.out⟩
        · have kc := run_convert_bytes_back (P := Tryz.prog) wr 49 9 5 ⟨g, 0, none⟩ c (hexes s s.size) Tryz.underlying49 Tryz.underlying5 Tryz.underlying9 (fun j hj => World.ownsRow.cells HO.out (g := g) rfl j _ (by simp [Lib.byteCells, List.getElem?_map, List.getElem?_eq_getElem hj]))
          rw [hexes_len] at kc
          go_wp2_with fail
          go_ret
          exact ⟨by rw [← HR.out]; rfl, HB.out⟩
end Go.Proofs.YtjbagjmjbfiddaaGreatDoor
