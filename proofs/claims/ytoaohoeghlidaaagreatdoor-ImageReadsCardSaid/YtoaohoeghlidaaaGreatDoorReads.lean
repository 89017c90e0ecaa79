/-
  ImageReads: the walk.
-/
import Derived.Test.YtoaohoeghlidaaaGreatDoorBack
import Derived.Test.YtoaohoeghlidaaaGreatDoorQImg
import Derived.Test.YtoaohoeghlidaaaGreatDoorLend
namespace Go.Proofs.YtoaohoeghlidaaaGreatDoor
open Go.ChangeShapes Go.WideShapes Go.ChangeAt Go.RowKit

theorem own_below {W W' : World} {lo n : Nat} {v : Value} {xs : List Value} (ho : W.ownsRow lo 5 1 v n xs) (h : Below W.heap.size W W') : W'.ownsRow lo 5 1 v n xs := by
  refine ⟨ho.1, ?_⟩
  rcases ho.2 with h1 | ⟨g, cap, cur, hv, hg, hc, hr⟩
  · exact .inl h1
  · exact .inr ⟨g, cap, cur, hv, hg, (h.block g (heap_lt hc)).trans hc, hr⟩
theorem kfr_below {g lo : Nat} {V V' : World} (h : KFr g V V') (hg : lo ≤ g) (hl : lo ≤ V.heap.size) : Below lo V V' := ⟨h.os, h.tape, h.output, h.size, fun k hk => h.block k (by omega) (by omega)⟩
theorem box_all {V : World} {B : Nat} (hB : B ≤ V.heap.size) (cs cs' : Array Value) : Below B V ((V.alloc (.cells cs 29)).setRow V.heap.size cs') := below_box (Below.refl B V) hB cs cs'

set_option maxHeartbeats 6400000 in
set_option maxRecDepth 100000 in
theorem reads_any (W : World) (hE : Env W) (ab : Option Addr) (nb cb : Nat) (Bb : List UInt8) (hBb : Bytes W W.heap.size ab nb cb Bb) :
    Calls Tryz.prog 4 #[.slice ab nb cb] W fun e W' => e = .returned (.bool true) ∧ Below W.heap.size W W' := by
  have hs0 := hE.size
  have HE := Lib.hid hE
  have HBB := Lib.hid hBb
  have hnb := hBb.1
  clear hE hBb
  cases h40 : decide ((4000 : Int) < (nb : Int)) with
  | true =>
    go_enter Tryz.func4, Tryz.ntmps4
    go_wp2_with (go_at_call 8; refine (awake_any W HE.out).mono ?_)
    rintro e V2 ⟨rfl, hb2⟩
    have HB2 := Lib.hid hb2
    clear hb2
    go_wp2_with fail
    go_returns
    exact ⟨rfl, HB2.out⟩
  | false =>
  have hn4 : nb ≤ 4000 := by have := of_decide_eq_false h40; omega
  have hld := lend_any W Bb ab nb cb HBB.out hn4
  go_enter Tryz.func4, Tryz.ntmps4
  go_wp2_with (go_at_call 16; refine hld.mono ?_)
  rintro e V1 ⟨rfl, hown1, hb1⟩
  have hrd := read_any V1 Bb (some ⟨W.heap.size, 0, none⟩) nb (nb + 3) (bytes_of_own hown1) (by omega)
  have HO1 := Lib.hid hown1
  have HB1 := Lib.hid hb1
  have hg1 : W.heap.size < V1.heap.size := (own_type hown1 (k := W.heap.size) rfl).2.1
  clear h40 hld hown1 hb1
  go_wp2_with (go_at_call 17; refine hrd.mono ?_)
  first | rintro e V2 ⟨ha, hb2⟩ | rintro e V2 ha hb2
  have HB2 := Lib.hid (HB1.out.trans (hb2.mono (Nat.le_of_lt hg1)))
  have HO2 := Lib.hid (own_below HO1.out hb2)
  have hs12 := hb2.size
  clear hrd hb2
  rcases ha with ⟨hok, vs2, rfl, hI2⟩ | ⟨hno, gf, rfl, hgf⟩
  · have HOK := Lib.hid hok
    obtain ⟨y, hyy⟩ : ∃ y, (readSt Bb).1 = y := ⟨_, rfl⟩
    rw [hyy] at hI2
    have HYY := Lib.hid hyy
    have HI2 := Lib.hid hI2
    obtain ⟨sa0, sl0, sc0, sa1, sl1, sc1, sa2, sl2, sc2, sa3, sl3, sc3, sa5, sl5, sc5, sa6, sl6, sc6, sa7, sl7, sc7, sa8, sl8, sc8, sa9, sl9, sc9, rfl, -⟩ := img_is.1 hI2
    clear hok hyy hI2
    have HK2 := Lib.hid (heap_alloc_new V2 (.cells #[.slice none 0 0, .slice none 0 0, .slice none 0 0, .slice none 0 0, .string ⟨#[]⟩, .slice none 0 0, .slice none 0 0, .slice none 0 0, .slice none 0 0, .slice none 0 0, .int .i64 0, .int .i64 0] 29))
    have HB3 := Lib.hid (below_box HB2.out HB2.out.size #[.slice none 0 0, .slice none 0 0, .slice none 0 0, .slice none 0 0, .string ⟨#[]⟩, .slice none 0 0, .slice none 0 0, .slice none 0 0, .slice none 0 0, .slice none 0 0, .int .i64 0, .int .i64 0] #[.slice sa0 sl0 sc0, .slice sa1 sl1 sc1, .slice sa2 sl2 sc2, .slice sa3 sl3 sc3, .string y.globals, .slice sa5 sl5 sc5, .slice sa6 sl6 sc6, .slice sa7 sl7 sc7, .slice sa8 sl8 sc8, .slice sa9 sl9 sc9, .int .i64 y.d, .int .i64 y.w])
    have HS3 := Lib.hid (box_new V2 #[.slice none 0 0, .slice none 0 0, .slice none 0 0, .slice none 0 0, .string ⟨#[]⟩, .slice none 0 0, .slice none 0 0, .slice none 0 0, .slice none 0 0, .slice none 0 0, .int .i64 0, .int .i64 0] #[.slice sa0 sl0 sc0, .slice sa1 sl1 sc1, .slice sa2 sl2 sc2, .slice sa3 sl3 sc3, .string y.globals, .slice sa5 sl5 sc5, .slice sa6 sl6 sc6, .slice sa7 sl7 sc7, .slice sa8 sl8 sc8, .slice sa9 sl9 sc9, .int .i64 y.d, .int .i64 y.w])
    have HO3 := Lib.hid (own_below HO2.out (box_all (Nat.le_refl _) #[.slice none 0 0, .slice none 0 0, .slice none 0 0, .slice none 0 0, .string ⟨#[]⟩, .slice none 0 0, .slice none 0 0, .slice none 0 0, .slice none 0 0, .slice none 0 0, .int .i64 0, .int .i64 0] #[.slice sa0 sl0 sc0, .slice sa1 sl1 sc1, .slice sa2 sl2 sc2, .slice sa3 sl3 sc3, .string y.globals, .slice sa5 sl5 sc5, .slice sa6 sl6 sc6, .slice sa7 sl7 sc7, .slice sa8 sl8 sc8, .slice sa9 sl9 sc9, .int .i64 y.d, .int .i64 y.w]))
    have HI3 := Lib.hid (shImg.keep (W' := (V2.alloc (.cells #[.slice none 0 0, .slice none 0 0, .slice none 0 0, .slice none 0 0, .string ⟨#[]⟩, .slice none 0 0, .slice none 0 0, .slice none 0 0, .slice none 0 0, .slice none 0 0, .int .i64 0, .int .i64 0] 29)).setRow V2.heap.size #[.slice sa0 sl0 sc0, .slice sa1 sl1 sc1, .slice sa2 sl2 sc2, .slice sa3 sl3 sc3, .string y.globals, .slice sa5 sl5 sc5, .slice sa6 sl6 sc6, .slice sa7 sl7 sc7, .slice sa8 sl8 sc8, .slice sa9 sl9 sc9, .int .i64 y.d, .int .i64 y.w]) (fun k hk => box_keep V2 #[.slice none 0 0, .slice none 0 0, .slice none 0 0, .slice none 0 0, .string ⟨#[]⟩, .slice none 0 0, .slice none 0 0, .slice none 0 0, .slice none 0 0, .slice none 0 0, .int .i64 0, .int .i64 0] #[.slice sa0 sl0 sc0, .slice sa1 sl1 sc1, .slice sa2 sl2 sc2, .slice sa3 sl3 sc3, .string y.globals, .slice sa5 sl5 sc5, .slice sa6 sl6 sc6, .slice sa7 sl7 sc7, .slice sa8 sl8 sc8, .slice sa9 sl9 sc9, .int .i64 y.d, .int .i64 y.w] k hk.2) HI2.out)
    have hz3 := box_size V2 #[.slice none 0 0, .slice none 0 0, .slice none 0 0, .slice none 0 0, .string ⟨#[]⟩, .slice none 0 0, .slice none 0 0, .slice none 0 0, .slice none 0 0, .slice none 0 0, .int .i64 0, .int .i64 0] #[.slice sa0 sl0 sc0, .slice sa1 sl1 sc1, .slice sa2 sl2 sc2, .slice sa3 sl3 sc3, .string y.globals, .slice sa5 sl5 sc5, .slice sa6 sl6 sc6, .slice sa7 sl7 sc7, .slice sa8 sl8 sc8, .slice sa9 sl9 sc9, .int .i64 y.d, .int .i64 y.w]
    have hone3 : (#[.slice sa0 sl0 sc0, .slice sa1 sl1 sc1, .slice sa2 sl2 sc2, .slice sa3 sl3 sc3, .string y.globals, .slice sa5 sl5 sc5, .slice sa6 sl6 sc6, .slice sa7 sl7 sc7, .slice sa8 sl8 sc8, .slice sa9 sl9 sc9, .int .i64 y.d, .int .i64 y.w] : Array Value).all (·.oneCell') = true := by simp [Value.oneCell']
    have hdr := qimg_any _ Bb ab nb cb ((HBB.out.keep (fun k hk => HB3.out.block k hk)).lift HB3.out.size) (by omega)
    go_wp2_with (first | (refine wpList_store_row rfl 29 (.tmp 4) (.tmp 17) rfl V2.heap.size #[.slice sa0 sl0 sc0, .slice sa1 sl1 sc1, .slice sa2 sl2 sc2, .slice sa3 sl3 sc3, .string y.globals, .slice sa5 sl5 sc5, .slice sa6 sl6 sc6, .slice sa7 sl7 sc7, .slice sa8 sl8 sc8, .slice sa9 sl9 sc9, .int .i64 y.d, .int .i64 y.w] rfl rfl 29 #[.slice none 0 0, .slice none 0 0, .slice none 0 0, .slice none 0 0, .string ⟨#[]⟩, .slice none 0 0, .slice none 0 0, .slice none 0 0, .slice none 0 0, .slice none 0 0, .int .i64 0, .int .i64 0] HK2.out size29 rfl hone3 ?_) | (go_at_call 18; refine hdr.mono ?_))
    first | rintro e V4 ⟨ha, hb4⟩ | rintro e V4 ha hb4
    have HB4 := Lib.hid (HB3.out.trans (hb4.mono HB3.out.size))
    have HO4 := Lib.hid (own_below HO3.out hb4)
    have HS4 := Lib.hid ((hb4.block _ (heap_lt HS3.out)).trans HS3.out)
    have HI4 := Lib.hid (shImg.keep (W' := V4) (fun k hk => hb4.block k (by rw [hz3]; omega)) HI3.out)
    have hs34 := hb4.size
    rw [hz3] at hs34
    clear hdr hb4 hone3
    rcases ha with ⟨_, vs3, rfl, hJ4⟩ | ⟨hno, _⟩
    rotate_left
    · rw [HOK.out] at hno; cases hno
    rw [HYY.out] at hJ4
    rw [hz3] at hJ4
    have HJ4 := Lib.hid hJ4
    obtain ⟨ra0, rl0, rc0, ra1, rl1, rc1, ra2, rl2, rc2, ra3, rl3, rc3, ra5, rl5, rc5, ra6, rl6, rc6, ra7, rl7, rc7, ra8, rl8, rc8, ra9, rl9, rc9, rfl, -⟩ := img_is.1 hJ4
    clear hJ4
    have HK4 := Lib.hid (heap_alloc_new V4 (.cells #[.slice none 0 0, .slice none 0 0, .slice none 0 0, .slice none 0 0, .string ⟨#[]⟩, .slice none 0 0, .slice none 0 0, .slice none 0 0, .slice none 0 0, .slice none 0 0, .int .i64 0, .int .i64 0] 29))
    have HB5 := Lib.hid (below_box HB4.out HB4.out.size #[.slice none 0 0, .slice none 0 0, .slice none 0 0, .slice none 0 0, .string ⟨#[]⟩, .slice none 0 0, .slice none 0 0, .slice none 0 0, .slice none 0 0, .slice none 0 0, .int .i64 0, .int .i64 0] #[.slice ra0 rl0 rc0, .slice ra1 rl1 rc1, .slice ra2 rl2 rc2, .slice ra3 rl3 rc3, .string y.globals, .slice ra5 rl5 rc5, .slice ra6 rl6 rc6, .slice ra7 rl7 rc7, .slice ra8 rl8 rc8, .slice ra9 rl9 rc9, .int .i64 y.d, .int .i64 y.w])
    have HR5 := Lib.hid (box_new V4 #[.slice none 0 0, .slice none 0 0, .slice none 0 0, .slice none 0 0, .string ⟨#[]⟩, .slice none 0 0, .slice none 0 0, .slice none 0 0, .slice none 0 0, .slice none 0 0, .int .i64 0, .int .i64 0] #[.slice ra0 rl0 rc0, .slice ra1 rl1 rc1, .slice ra2 rl2 rc2, .slice ra3 rl3 rc3, .string y.globals, .slice ra5 rl5 rc5, .slice ra6 rl6 rc6, .slice ra7 rl7 rc7, .slice ra8 rl8 rc8, .slice ra9 rl9 rc9, .int .i64 y.d, .int .i64 y.w])
    have HS5 := Lib.hid (box_old HS4.out #[.slice none 0 0, .slice none 0 0, .slice none 0 0, .slice none 0 0, .string ⟨#[]⟩, .slice none 0 0, .slice none 0 0, .slice none 0 0, .slice none 0 0, .slice none 0 0, .int .i64 0, .int .i64 0] #[.slice ra0 rl0 rc0, .slice ra1 rl1 rc1, .slice ra2 rl2 rc2, .slice ra3 rl3 rc3, .string y.globals, .slice ra5 rl5 rc5, .slice ra6 rl6 rc6, .slice ra7 rl7 rc7, .slice ra8 rl8 rc8, .slice ra9 rl9 rc9, .int .i64 y.d, .int .i64 y.w])
    have HO5 := Lib.hid (own_below HO4.out (box_all (Nat.le_refl _) #[.slice none 0 0, .slice none 0 0, .slice none 0 0, .slice none 0 0, .string ⟨#[]⟩, .slice none 0 0, .slice none 0 0, .slice none 0 0, .slice none 0 0, .slice none 0 0, .int .i64 0, .int .i64 0] #[.slice ra0 rl0 rc0, .slice ra1 rl1 rc1, .slice ra2 rl2 rc2, .slice ra3 rl3 rc3, .string y.globals, .slice ra5 rl5 rc5, .slice ra6 rl6 rc6, .slice ra7 rl7 rc7, .slice ra8 rl8 rc8, .slice ra9 rl9 rc9, .int .i64 y.d, .int .i64 y.w]))
    have HI5 := Lib.hid (shImg.keep (W' := (V4.alloc (.cells #[.slice none 0 0, .slice none 0 0, .slice none 0 0, .slice none 0 0, .string ⟨#[]⟩, .slice none 0 0, .slice none 0 0, .slice none 0 0, .slice none 0 0, .slice none 0 0, .int .i64 0, .int .i64 0] 29)).setRow V4.heap.size #[.slice ra0 rl0 rc0, .slice ra1 rl1 rc1, .slice ra2 rl2 rc2, .slice ra3 rl3 rc3, .string y.globals, .slice ra5 rl5 rc5, .slice ra6 rl6 rc6, .slice ra7 rl7 rc7, .slice ra8 rl8 rc8, .slice ra9 rl9 rc9, .int .i64 y.d, .int .i64 y.w]) (fun k hk => box_keep V4 #[.slice none 0 0, .slice none 0 0, .slice none 0 0, .slice none 0 0, .string ⟨#[]⟩, .slice none 0 0, .slice none 0 0, .slice none 0 0, .slice none 0 0, .slice none 0 0, .int .i64 0, .int .i64 0] #[.slice ra0 rl0 rc0, .slice ra1 rl1 rc1, .slice ra2 rl2 rc2, .slice ra3 rl3 rc3, .string y.globals, .slice ra5 rl5 rc5, .slice ra6 rl6 rc6, .slice ra7 rl7 rc7, .slice ra8 rl8 rc8, .slice ra9 rl9 rc9, .int .i64 y.d, .int .i64 y.w] k (by omega)) HI4.out)
    have HJ5 := Lib.hid (shImg.keep (W' := (V4.alloc (.cells #[.slice none 0 0, .slice none 0 0, .slice none 0 0, .slice none 0 0, .string ⟨#[]⟩, .slice none 0 0, .slice none 0 0, .slice none 0 0, .slice none 0 0, .slice none 0 0, .int .i64 0, .int .i64 0] 29)).setRow V4.heap.size #[.slice ra0 rl0 rc0, .slice ra1 rl1 rc1, .slice ra2 rl2 rc2, .slice ra3 rl3 rc3, .string y.globals, .slice ra5 rl5 rc5, .slice ra6 rl6 rc6, .slice ra7 rl7 rc7, .slice ra8 rl8 rc8, .slice ra9 rl9 rc9, .int .i64 y.d, .int .i64 y.w]) (fun k hk => box_keep V4 #[.slice none 0 0, .slice none 0 0, .slice none 0 0, .slice none 0 0, .string ⟨#[]⟩, .slice none 0 0, .slice none 0 0, .slice none 0 0, .slice none 0 0, .slice none 0 0, .int .i64 0, .int .i64 0] #[.slice ra0 rl0 rc0, .slice ra1 rl1 rc1, .slice ra2 rl2 rc2, .slice ra3 rl3 rc3, .string y.globals, .slice ra5 rl5 rc5, .slice ra6 rl6 rc6, .slice ra7 rl7 rc7, .slice ra8 rl8 rc8, .slice ra9 rl9 rc9, .int .i64 y.d, .int .i64 y.w] k hk.2) HJ4.out)
    have hz5 := box_size V4 #[.slice none 0 0, .slice none 0 0, .slice none 0 0, .slice none 0 0, .string ⟨#[]⟩, .slice none 0 0, .slice none 0 0, .slice none 0 0, .slice none 0 0, .slice none 0 0, .int .i64 0, .int .i64 0] #[.slice ra0 rl0 rc0, .slice ra1 rl1 rc1, .slice ra2 rl2 rc2, .slice ra3 rl3 rc3, .string y.globals, .slice ra5 rl5 rc5, .slice ra6 rl6 rc6, .slice ra7 rl7 rc7, .slice ra8 rl8 rc8, .slice ra9 rl9 rc9, .int .i64 y.d, .int .i64 y.w]
    have hone5 : (#[.slice ra0 rl0 rc0, .slice ra1 rl1 rc1, .slice ra2 rl2 rc2, .slice ra3 rl3 rc3, .string y.globals, .slice ra5 rl5 rc5, .slice ra6 rl6 rc6, .slice ra7 rl7 rc7, .slice ra8 rl8 rc8, .slice ra9 rl9 rc9, .int .i64 y.d, .int .i64 y.w] : Array Value).all (·.oneCell') = true := by simp [Value.oneCell']
    have hov := over_any _ W.heap.size W.heap.size nb (nb + 3) _ HO5.out hn4
    go_wp2_with (first | (refine wpList_store_row rfl 29 (.tmp 6) (.tmp 22) rfl V4.heap.size #[.slice ra0 rl0 rc0, .slice ra1 rl1 rc1, .slice ra2 rl2 rc2, .slice ra3 rl3 rc3, .string y.globals, .slice ra5 rl5 rc5, .slice ra6 rl6 rc6, .slice ra7 rl7 rc7, .slice ra8 rl8 rc8, .slice ra9 rl9 rc9, .int .i64 y.d, .int .i64 y.w] rfl rfl 29 #[.slice none 0 0, .slice none 0 0, .slice none 0 0, .slice none 0 0, .string ⟨#[]⟩, .slice none 0 0, .slice none 0 0, .slice none 0 0, .slice none 0 0, .slice none 0 0, .int .i64 0, .int .i64 0] HK4.out size29 rfl hone5 ?_) | (go_at_call 15; refine hov.mono ?_))
    rintro e V6 ⟨rfl, hf6⟩
    have HB6 := Lib.hid (HB5.out.trans (kfr_below hf6 (Nat.le_refl _) HB5.out.size))
    have HS6 := Lib.hid ((hf6.block V2.heap.size (heap_lt HS5.out) (by have := HB2.out.size; omega)).trans HS5.out)
    have HR6 := Lib.hid ((hf6.block V4.heap.size (heap_lt HR5.out) (by omega)).trans HR5.out)
    have hI6 := shImg.keep (W' := V6) (fun k hk => hf6.block k (by rw [hz5]; omega) (by omega)) HI5.out
    have hJ6 := shImg.keep (W' := V6) (fun k hk => hf6.block k (by rw [hz5]; omega) (by omega)) HJ5.out
    have hs56 := hf6.size
    rw [hz5] at hs56
    have heq := eq_image V6.heap.size V6 _ _ y (shImg.wide (fun k hk => by omega) hI6) (shImg.wide (fun k hk => by omega) hJ6) (Nat.le_refl _)
    clear hov hf6 hone5 hI6 hJ6
    go_wp2_with (first | (refine wpList_load_row rfl 29 (.tmp 4) rfl V2.heap.size rfl 29 #[.slice sa0 sl0 sc0, .slice sa1 sl1 sc1, .slice sa2 sl2 sc2, .slice sa3 sl3 sc3, .string y.globals, .slice sa5 sl5 sc5, .slice sa6 sl6 sc6, .slice sa7 sl7 sc7, .slice sa8 sl8 sc8, .slice sa9 sl9 sc9, .int .i64 y.d, .int .i64 y.w] (0, 0) _ HS6.out Tryz.underlying29 rfl size29 ?_) | (refine wpList_load_row rfl 29 (.tmp 6) rfl V4.heap.size rfl 29 #[.slice ra0 rl0 rc0, .slice ra1 rl1 rc1, .slice ra2 rl2 rc2, .slice ra3 rl3 rc3, .string y.globals, .slice ra5 rl5 rc5, .slice ra6 rl6 rc6, .slice ra7 rl7 rc7, .slice ra8 rl8 rc8, .slice ra9 rl9 rc9, .int .i64 y.d, .int .i64 y.w] (0, 0) _ HR6.out Tryz.underlying29 rfl size29 ?_) | (go_at_call 14; refine heq.mono ?_))
    rintro e V7 ⟨rfl, hb7⟩
    have HB7 := Lib.hid (HB6.out.trans (hb7.mono HB6.out.size))
    clear heq hb7
    have hcd := code_nil V7
    go_wp2_with (go_at_call 12; refine hcd.mono ?_)
    rintro e V8 ⟨rfl, hb8⟩
    have HB8 := Lib.hid (HB7.out.trans (hb8.mono HB7.out.size))
    clear hcd hb8
    go_wp2_with (go_at_call 8; refine (awake_any V8 (HE.out.keep HB8.out hs0)).mono ?_)
    rintro e V9 ⟨rfl, hbz⟩
    have HBZ := Lib.hid (HB8.out.trans (hbz.mono HB8.out.size))
    clear hbz
    go_wp2_with fail
    go_returns
    exact ⟨rfl, HBZ.out⟩
  · have HNO := Lib.hid hno
    have HK2 := Lib.hid (heap_alloc_new V2 (.cells #[.slice none 0 0, .slice none 0 0, .slice none 0 0, .slice none 0 0, .string ⟨#[]⟩, .slice none 0 0, .slice none 0 0, .slice none 0 0, .slice none 0 0, .slice none 0 0, .int .i64 0, .int .i64 0] 29))
    have HB3 := Lib.hid (below_box HB2.out HB2.out.size #[.slice none 0 0, .slice none 0 0, .slice none 0 0, .slice none 0 0, .string ⟨#[]⟩, .slice none 0 0, .slice none 0 0, .slice none 0 0, .slice none 0 0, .slice none 0 0, .int .i64 0, .int .i64 0] #[.slice none 0 0, .slice none 0 0, .slice none 0 0, .slice none 0 0, .string ⟨#[]⟩, .slice none 0 0, .slice none 0 0, .slice none 0 0, .slice none 0 0, .slice none 0 0, .int .i64 0, .int .i64 0])
    have HS3 := Lib.hid (box_new V2 #[.slice none 0 0, .slice none 0 0, .slice none 0 0, .slice none 0 0, .string ⟨#[]⟩, .slice none 0 0, .slice none 0 0, .slice none 0 0, .slice none 0 0, .slice none 0 0, .int .i64 0, .int .i64 0] #[.slice none 0 0, .slice none 0 0, .slice none 0 0, .slice none 0 0, .string ⟨#[]⟩, .slice none 0 0, .slice none 0 0, .slice none 0 0, .slice none 0 0, .slice none 0 0, .int .i64 0, .int .i64 0])
    have HO3 := Lib.hid (own_below HO2.out (box_all (Nat.le_refl _) #[.slice none 0 0, .slice none 0 0, .slice none 0 0, .slice none 0 0, .string ⟨#[]⟩, .slice none 0 0, .slice none 0 0, .slice none 0 0, .slice none 0 0, .slice none 0 0, .int .i64 0, .int .i64 0] #[.slice none 0 0, .slice none 0 0, .slice none 0 0, .slice none 0 0, .string ⟨#[]⟩, .slice none 0 0, .slice none 0 0, .slice none 0 0, .slice none 0 0, .slice none 0 0, .int .i64 0, .int .i64 0]))
    have HG3 := Lib.hid (box_old hgf #[.slice none 0 0, .slice none 0 0, .slice none 0 0, .slice none 0 0, .string ⟨#[]⟩, .slice none 0 0, .slice none 0 0, .slice none 0 0, .slice none 0 0, .slice none 0 0, .int .i64 0, .int .i64 0] #[.slice none 0 0, .slice none 0 0, .slice none 0 0, .slice none 0 0, .string ⟨#[]⟩, .slice none 0 0, .slice none 0 0, .slice none 0 0, .slice none 0 0, .slice none 0 0, .int .i64 0, .int .i64 0])
    have hgl : gf < V2.heap.size := heap_lt hgf
    have hgw : gf ≠ W.heap.size := by
      intro h
      obtain ⟨_, _, cs, fz, h2⟩ := own_type HO2.out (k := W.heap.size) rfl
      rw [h, h2] at hgf
      cases hgf
    have hz3 := box_size V2 #[.slice none 0 0, .slice none 0 0, .slice none 0 0, .slice none 0 0, .string ⟨#[]⟩, .slice none 0 0, .slice none 0 0, .slice none 0 0, .slice none 0 0, .slice none 0 0, .int .i64 0, .int .i64 0] #[.slice none 0 0, .slice none 0 0, .slice none 0 0, .slice none 0 0, .string ⟨#[]⟩, .slice none 0 0, .slice none 0 0, .slice none 0 0, .slice none 0 0, .slice none 0 0, .int .i64 0, .int .i64 0]
    clear hno hgf
    have hdr := qimg_any _ Bb ab nb cb ((HBB.out.keep (fun k hk => HB3.out.block k hk)).lift HB3.out.size) (by omega)
    go_wp2_with (first | (refine wpList_store_row rfl 29 (.tmp 4) (.tmp 17) rfl V2.heap.size #[.slice none 0 0, .slice none 0 0, .slice none 0 0, .slice none 0 0, .string ⟨#[]⟩, .slice none 0 0, .slice none 0 0, .slice none 0 0, .slice none 0 0, .slice none 0 0, .int .i64 0, .int .i64 0] rfl rfl 29 #[.slice none 0 0, .slice none 0 0, .slice none 0 0, .slice none 0 0, .string ⟨#[]⟩, .slice none 0 0, .slice none 0 0, .slice none 0 0, .slice none 0 0, .slice none 0 0, .int .i64 0, .int .i64 0] HK2.out size29 rfl zero_one ?_) | (go_at_call 18; refine hdr.mono ?_))
    first | rintro e V4 ⟨ha, hb4⟩ | rintro e V4 ha hb4
    have HB4 := Lib.hid (HB3.out.trans (hb4.mono HB3.out.size))
    have HO4 := Lib.hid (own_below HO3.out hb4)
    have HS4 := Lib.hid ((hb4.block _ (heap_lt HS3.out)).trans HS3.out)
    have HG4 := Lib.hid ((hb4.block _ (heap_lt HG3.out)).trans HG3.out)
    have hs34 := hb4.size
    rw [hz3] at hs34
    clear hdr hb4
    rcases ha with ⟨hok, _⟩ | ⟨_, rfl⟩
    · rw [HNO.out] at hok; cases hok
    have HK4 := Lib.hid (heap_alloc_new V4 (.cells #[.slice none 0 0, .slice none 0 0, .slice none 0 0, .slice none 0 0, .string ⟨#[]⟩, .slice none 0 0, .slice none 0 0, .slice none 0 0, .slice none 0 0, .slice none 0 0, .int .i64 0, .int .i64 0] 29))
    have HB5 := Lib.hid (below_box HB4.out HB4.out.size #[.slice none 0 0, .slice none 0 0, .slice none 0 0, .slice none 0 0, .string ⟨#[]⟩, .slice none 0 0, .slice none 0 0, .slice none 0 0, .slice none 0 0, .slice none 0 0, .int .i64 0, .int .i64 0] #[.slice none 0 0, .slice none 0 0, .slice none 0 0, .slice none 0 0, .string ⟨#[]⟩, .slice none 0 0, .slice none 0 0, .slice none 0 0, .slice none 0 0, .slice none 0 0, .int .i64 0, .int .i64 0])
    have HR5 := Lib.hid (box_new V4 #[.slice none 0 0, .slice none 0 0, .slice none 0 0, .slice none 0 0, .string ⟨#[]⟩, .slice none 0 0, .slice none 0 0, .slice none 0 0, .slice none 0 0, .slice none 0 0, .int .i64 0, .int .i64 0] #[.slice none 0 0, .slice none 0 0, .slice none 0 0, .slice none 0 0, .string ⟨#[]⟩, .slice none 0 0, .slice none 0 0, .slice none 0 0, .slice none 0 0, .slice none 0 0, .int .i64 0, .int .i64 0])
    have HS5 := Lib.hid (box_old HS4.out #[.slice none 0 0, .slice none 0 0, .slice none 0 0, .slice none 0 0, .string ⟨#[]⟩, .slice none 0 0, .slice none 0 0, .slice none 0 0, .slice none 0 0, .slice none 0 0, .int .i64 0, .int .i64 0] #[.slice none 0 0, .slice none 0 0, .slice none 0 0, .slice none 0 0, .string ⟨#[]⟩, .slice none 0 0, .slice none 0 0, .slice none 0 0, .slice none 0 0, .slice none 0 0, .int .i64 0, .int .i64 0])
    have HG5 := Lib.hid (box_old HG4.out #[.slice none 0 0, .slice none 0 0, .slice none 0 0, .slice none 0 0, .string ⟨#[]⟩, .slice none 0 0, .slice none 0 0, .slice none 0 0, .slice none 0 0, .slice none 0 0, .int .i64 0, .int .i64 0] #[.slice none 0 0, .slice none 0 0, .slice none 0 0, .slice none 0 0, .string ⟨#[]⟩, .slice none 0 0, .slice none 0 0, .slice none 0 0, .slice none 0 0, .slice none 0 0, .int .i64 0, .int .i64 0])
    have HO5 := Lib.hid (own_below HO4.out (box_all (Nat.le_refl _) #[.slice none 0 0, .slice none 0 0, .slice none 0 0, .slice none 0 0, .string ⟨#[]⟩, .slice none 0 0, .slice none 0 0, .slice none 0 0, .slice none 0 0, .slice none 0 0, .int .i64 0, .int .i64 0] #[.slice none 0 0, .slice none 0 0, .slice none 0 0, .slice none 0 0, .string ⟨#[]⟩, .slice none 0 0, .slice none 0 0, .slice none 0 0, .slice none 0 0, .slice none 0 0, .int .i64 0, .int .i64 0]))
    have hz5 := box_size V4 #[.slice none 0 0, .slice none 0 0, .slice none 0 0, .slice none 0 0, .string ⟨#[]⟩, .slice none 0 0, .slice none 0 0, .slice none 0 0, .slice none 0 0, .slice none 0 0, .int .i64 0, .int .i64 0] #[.slice none 0 0, .slice none 0 0, .slice none 0 0, .slice none 0 0, .string ⟨#[]⟩, .slice none 0 0, .slice none 0 0, .slice none 0 0, .slice none 0 0, .slice none 0 0, .int .i64 0, .int .i64 0]
    have hov := over_any _ W.heap.size W.heap.size nb (nb + 3) _ HO5.out hn4
    go_wp2_with (first | (refine wpList_store_row rfl 29 (.tmp 6) (.tmp 22) rfl V4.heap.size #[.slice none 0 0, .slice none 0 0, .slice none 0 0, .slice none 0 0, .string ⟨#[]⟩, .slice none 0 0, .slice none 0 0, .slice none 0 0, .slice none 0 0, .slice none 0 0, .int .i64 0, .int .i64 0] rfl rfl 29 #[.slice none 0 0, .slice none 0 0, .slice none 0 0, .slice none 0 0, .string ⟨#[]⟩, .slice none 0 0, .slice none 0 0, .slice none 0 0, .slice none 0 0, .slice none 0 0, .int .i64 0, .int .i64 0] HK4.out size29 rfl zero_one ?_) | (go_at_call 15; refine hov.mono ?_))
    rintro e V6 ⟨rfl, hf6⟩
    have HB6 := Lib.hid (HB5.out.trans (kfr_below hf6 (Nat.le_refl _) HB5.out.size))
    have HS6 := Lib.hid ((hf6.block V2.heap.size (heap_lt HS5.out) (by have := HB2.out.size; omega)).trans HS5.out)
    have HR6 := Lib.hid ((hf6.block V4.heap.size (heap_lt HR5.out) (by omega)).trans HR5.out)
    have HG6 := Lib.hid ((hf6.block gf (heap_lt HG5.out) hgw).trans HG5.out)
    have heq := eq_image 0 V6 _ _ imgZ (isZ _ _) (isZ _ _) (Nat.zero_le _)
    clear hov hf6
    go_wp2_with (first | (refine wpList_load_row rfl 29 (.tmp 4) rfl V2.heap.size rfl 29 #[.slice none 0 0, .slice none 0 0, .slice none 0 0, .slice none 0 0, .string ⟨#[]⟩, .slice none 0 0, .slice none 0 0, .slice none 0 0, .slice none 0 0, .slice none 0 0, .int .i64 0, .int .i64 0] (0, 0) _ HS6.out Tryz.underlying29 rfl size29 ?_) | (refine wpList_load_row rfl 29 (.tmp 6) rfl V4.heap.size rfl 29 #[.slice none 0 0, .slice none 0 0, .slice none 0 0, .slice none 0 0, .string ⟨#[]⟩, .slice none 0 0, .slice none 0 0, .slice none 0 0, .slice none 0 0, .slice none 0 0, .int .i64 0, .int .i64 0] (0, 0) _ HR6.out Tryz.underlying29 rfl size29 ?_) | (go_at_call 14; refine heq.mono ?_))
    rintro e V7 ⟨rfl, hb7⟩
    have HB7 := Lib.hid (HB6.out.trans (hb7.mono HB6.out.size))
    have hg7 := (hb7.block _ (heap_lt HG6.out)).trans HG6.out
    clear heq hb7
    have hcd := code_err 19 gf V7 (HE.out.keep HB7.out hs0) hg7
    clear hg7
    go_wp2_with (go_at_call 12; refine hcd.mono ?_)
    rintro e V8 ⟨rfl, hb8⟩
    have HB8 := Lib.hid (HB7.out.trans (hb8.mono HB7.out.size))
    clear hcd hb8
    go_wp2_with (go_at_call 8; refine (awake_any V8 (HE.out.keep HB8.out hs0)).mono ?_)
    rintro e V9 ⟨rfl, hbz⟩
    have HBZ := Lib.hid (HB8.out.trans (hbz.mono HB8.out.size))
    clear hbz
    go_wp2_with fail
    go_returns
    exact ⟨rfl, HBZ.out⟩
end Go.Proofs.YtoaohoeghlidaaaGreatDoor
