/-
  ImageBack: the walk.
-/
import Derived.Test.YtoaohoeghlidaaaGreatDoorAwake
import Derived.Test.YtoaohoeghlidaaaGreatDoorGreat
namespace Go.Proofs.YtoaohoeghlidaaaGreatDoor
open Go.ChangeShapes Go.WideShapes Go.ChangeAt Go.RowKit

/-- the image of nothing -/
def imgZ : ImgD := ⟨[], [], [], [], ⟨#[]⟩, [], [], [], [], [], 0, 0⟩
theorem isZ (S : Nat → Prop) (W : World) : shImg.Is S W [.slice none 0 0, .slice none 0 0, .slice none 0 0, .slice none 0 0, .string ⟨#[]⟩, .slice none 0 0, .slice none 0 0, .slice none 0 0, .slice none 0 0, .slice none 0 0, .int .i64 0, .int .i64 0] imgZ :=
  img_is.2 ⟨_, _, _, _, _, _, _, _, _, _, _, _, _, _, _, _, _, _, _, _, _, _, _, _, _, _, _, rfl, Row.nil _ _ _ _, Row.nil _ _ _ _, Row.nil _ _ _ _, Row.nil _ _ _ _, Row.nil _ _ _ _, Row.nil _ _ _ _, Row.nil _ _ _ _, Row.nil _ _ _ _, Row.nil _ _ _ _⟩
theorem grow_img : Grow cImg 6003901010048 := grow_iso (grow_pair (grow_pair (grow_pair (grow_pair (grow_pair (grow_pair (grow_pair (grow_pair (grow_pair (grow_pair (grow_pair grow_faces grow_descs) grow_codes) grow_nums) grow_text) grow_nums) grow_nums) grow_links) grow_links) grow_jobs) grow_num) grow_num)
theorem lay_len (x : ImgD) : (layOf x).bs.length ≤ 6003901010057 := by
  have h := grow_img x (wText magic ⟨[], false⟩)
  have h9 : (wText magic ⟨[], false⟩).bs.length = 9 := by rfl
  rw [h9] at h
  exact Nat.le_trans h (by omega)
theorem lay_pos {x : ImgD} (h : (layOf x).full = false) : 9 ≤ (layOf x).bs.length := by
  obtain ⟨l, _, h2⟩ := lay_fits h
  rw [h2, List.length_append]
  show 9 ≤ 9 + l.length
  omega
theorem zero_one : (#[.slice none 0 0, .slice none 0 0, .slice none 0 0, .slice none 0 0, .string ⟨#[]⟩, .slice none 0 0, .slice none 0 0, .slice none 0 0, .slice none 0 0, .slice none 0 0, .int .i64 0, .int .i64 0] : Array Value).all (·.oneCell') = true := by simp [Value.oneCell']
theorem below_box {B : Nat} {W V : World} (h : Below B W V) (hB : B ≤ V.heap.size) (cs cs' : Array Value) : Below B W ((V.alloc (.cells cs 29)).setRow V.heap.size cs') := below_row (h.alloc hB _) hB cs'
theorem box_old {V : World} {k : Nat} {O : Obj} (h : V.heap[k]? = some O) (cs cs' : Array Value) : ((V.alloc (.cells cs 29)).setRow V.heap.size cs').heap[k]? = some O :=
  (setRow_other _ _ _ _ (by have := heap_lt h; omega)).trans ((Below.heap_alloc _ _ _ (heap_lt h)).trans h)
theorem box_new (V : World) (cs cs' : Array Value) : ((V.alloc (.cells cs 29)).setRow V.heap.size cs').heap[V.heap.size]? = some (.cells cs' 29 (0, 0)) := setRow_same cs' (heap_alloc_new V _)
theorem box_size (V : World) (cs cs' : Array Value) : ((V.alloc (.cells cs 29)).setRow V.heap.size cs').heap.size = V.heap.size + 1 := by rw [size_setRow]; simp
theorem box_keep (V : World) (cs cs' : Array Value) : ∀ k, k < V.heap.size → ((V.alloc (.cells cs 29)).setRow V.heap.size cs').heap[k]? = V.heap[k]? := fun k hk => (setRow_other _ _ _ _ (by omega)).trans (Below.heap_alloc _ _ _ hk)

set_option maxHeartbeats 6400000 in
set_option maxRecDepth 100000 in
theorem back_any (W : World) (hE : Env W) (vs : List Value) (x : ImgD) (h : shImg.Is (fun k => k < W.heap.size) W vs x) (ab : Option Addr) (nb cb : Nat) (Bb : List UInt8) (hBb : Bytes W W.heap.size ab nb cb Bb) (cut : Int) :
    Calls Tryz.prog 5 #[.agg vs.toArray, .slice ab nb cb, .int .i64 cut] W fun e W' => e = .returned (.bool true) ∧ Below W.heap.size W W' := by
  have hs0 := hE.size
  have HE := Lib.hid hE
  have H := Lib.hid h
  obtain ⟨a0, l0, c0, a1, l1, c1, a2, l2, c2, a3, l3, c3, a5, l5, c5, a6, l6, c6, a7, l7, c7, a8, l8, c8, a9, l9, c9, rfl, -⟩ := img_is.1 h
  have HX0 := Lib.hid (show (W.alloc (.cells #[.slice a0 l0 c0, .slice a1 l1 c1, .slice a2 l2 c2, .slice a3 l3 c3, .string x.globals, .slice a5 l5 c5, .slice a6 l6 c6, .slice a7 l7 c7, .slice a8 l8 c8, .slice a9 l9 c9, .int .i64 x.d, .int .i64 x.w] 29)).heap[W.heap.size]? = some (.cells #[.slice a0 l0 c0, .slice a1 l1 c1, .slice a2 l2 c2, .slice a3 l3 c3, .string x.globals, .slice a5 l5 c5, .slice a6 l6 c6, .slice a7 l7 c7, .slice a8 l8 c8, .slice a9 l9 c9, .int .i64 x.d, .int .i64 x.w] 29 (0, 0)) from heap_alloc_new W _)
  have HB0 := Lib.hid ((Below.refl W.heap.size W).alloc (Nat.le_refl _) (.cells #[.slice a0 l0 c0, .slice a1 l1 c1, .slice a2 l2 c2, .slice a3 l3 c3, .string x.globals, .slice a5 l5 c5, .slice a6 l6 c6, .slice a7 l7 c7, .slice a8 l8 c8, .slice a9 l9 c9, .int .i64 x.d, .int .i64 x.w] 29))
  have hgr := great_any W.heap.size (W.alloc (.cells #[.slice a0 l0 c0, .slice a1 l1 c1, .slice a2 l2 c2, .slice a3 l3 c3, .string x.globals, .slice a5 l5 c5, .slice a6 l6 c6, .slice a7 l7 c7, .slice a8 l8 c8, .slice a9 l9 c9, .int .i64 x.d, .int .i64 x.w] 29)) _ x (shImg.keep (fun k hk => HB0.out.block k hk) H.out) (by simp)
  have HBB := Lib.hid hBb
  have hnb := hBb.1
  clear h hE hBb
  show Calls Tryz.prog 5 #[.agg #[.slice a0 l0 c0, .slice a1 l1 c1, .slice a2 l2 c2, .slice a3 l3 c3, .string x.globals, .slice a5 l5 c5, .slice a6 l6 c6, .slice a7 l7 c7, .slice a8 l8 c8, .slice a9 l9 c9, .int .i64 x.d, .int .i64 x.w], .slice ab nb cb, .int .i64 cut] W _
  cases h40 : decide ((4000 : Int) < (nb : Int)) with
  | true =>
    go_enter Tryz.func5, Tryz.ntmps5
    go_wp2_with (first | (refine wpList_load_row rfl 29 (.tmp 3) rfl W.heap.size rfl 29 #[.slice a0 l0 c0, .slice a1 l1 c1, .slice a2 l2 c2, .slice a3 l3 c3, .string x.globals, .slice a5 l5 c5, .slice a6 l6 c6, .slice a7 l7 c7, .slice a8 l8 c8, .slice a9 l9 c9, .int .i64 x.d, .int .i64 x.w] (0, 0) _ HX0.out Tryz.underlying29 rfl size29 ?_) | (go_at_call 7; refine hgr.mono ?_))
    rintro e V1 ⟨β, rfl, hb1⟩
    have HB1 := Lib.hid (HB0.out.trans (hb1.mono (by simp)))
    clear hgr hb1
    cases β with
    | true =>
      go_wp2_with (go_at_call 8; refine (awake_any V1 (HE.out.keep HB1.out hs0)).mono ?_)
      rintro e V2 ⟨rfl, hb2⟩
      have HB2 := Lib.hid (HB1.out.trans (hb2.mono HB1.out.size))
      clear hb2
      go_wp2_with fail
      go_returns
      exact ⟨rfl, HB2.out⟩
    | false =>
      go_wp2_with (go_at_call 8; refine (awake_any V1 (HE.out.keep HB1.out hs0)).mono ?_)
      rintro e V2 ⟨rfl, hb2⟩
      have HB2 := Lib.hid (HB1.out.trans (hb2.mono HB1.out.size))
      clear hb2
      go_wp2_with fail
      go_returns
      exact ⟨rfl, HB2.out⟩
  | false =>
  have hn4 : nb ≤ 4000 := by have := of_decide_eq_false h40; omega
  go_enter Tryz.func5, Tryz.ntmps5
  go_wp2_with (first | (refine wpList_load_row rfl 29 (.tmp 3) rfl W.heap.size rfl 29 #[.slice a0 l0 c0, .slice a1 l1 c1, .slice a2 l2 c2, .slice a3 l3 c3, .string x.globals, .slice a5 l5 c5, .slice a6 l6 c6, .slice a7 l7 c7, .slice a8 l8 c8, .slice a9 l9 c9, .int .i64 x.d, .int .i64 x.w] (0, 0) _ HX0.out Tryz.underlying29 rfl size29 ?_) | (go_at_call 7; refine hgr.mono ?_))
  rintro e V1 ⟨β, rfl, hb1⟩
  have HB1 := Lib.hid (HB0.out.trans (hb1.mono (by simp)))
  have HX1 := Lib.hid ((hb1.block _ (heap_lt HX0.out)).trans HX0.out)
  clear hgr hb1
  cases β with
  | true =>
    go_wp2_with (go_at_call 8; refine (awake_any V1 (HE.out.keep HB1.out hs0)).mono ?_)
    rintro e V2 ⟨rfl, hb2⟩
    have HB2 := Lib.hid (HB1.out.trans (hb2.mono HB1.out.size))
    clear hb2
    go_wp2_with fail
    go_returns
    exact ⟨rfl, HB2.out⟩
  | false =>
  have hly := lay_any V1 _ x (shImg.wide (fun k hk => Nat.lt_of_lt_of_le hk HB1.out.size) (shImg.keep (fun k hk => HB1.out.block k hk) H.out))
  clear h40
  go_wp2_with (first | (refine wpList_load_row rfl 29 (.tmp 3) rfl W.heap.size rfl 29 #[.slice a0 l0 c0, .slice a1 l1 c1, .slice a2 l2 c2, .slice a3 l3 c3, .string x.globals, .slice a5 l5 c5, .slice a6 l6 c6, .slice a7 l7 c7, .slice a8 l8 c8, .slice a9 l9 c9, .int .i64 x.d, .int .i64 x.w] (0, 0) _ HX1.out Tryz.underlying29 rfl size29 ?_) | (go_at_call 9; refine hly.mono ?_))
  rintro e V2 ⟨hla, hb2⟩
  have HX2 := Lib.hid ((hb2.block _ (heap_lt HX1.out)).trans HX1.out)
  have HB2 := Lib.hid (HB1.out.trans (hb2.mono HB1.out.size))
  clear hly hb2
  rcases hla with ⟨hful, ge, rfl, hge⟩ | ⟨hful, g, cap, rfl, hown⟩
  · have hcd := code_err 24 ge V2 (HE.out.keep HB2.out hs0) hge
    clear hful hge
    go_wp2_with (go_at_call 12; refine hcd.mono ?_)
    rintro e V3 ⟨rfl, hb3⟩
    have HB3 := Lib.hid (HB2.out.trans (hb3.mono HB2.out.size))
    clear hcd hb3
    have hrd := read_any V3 Bb ab nb cb ((HBB.out.keep (fun k hk => HB3.out.block k hk)).lim HB3.out.size) (by omega)
    go_wp2_with (first | (go_at_call 17; refine hrd.mono ?_))
    rintro e V20 ⟨ha, hb20⟩
    have HB20 := Lib.hid (HB3.out.trans (hb20.mono HB3.out.size))
    clear hrd hb20
    rcases ha with ⟨hok, vs2, rfl, hI2⟩ | ⟨_, gf, rfl, hgf⟩
    · have hrl := read_lay hok
      obtain ⟨y, hyy⟩ : ∃ y, (readSt Bb).1 = y := ⟨_, rfl⟩
      rw [hyy] at hI2 hrl
      have hI3 := shImg.wide (S' := fun k => k < V20.heap.size) (fun k hk => hk.2) hI2
      clear hI2 hok hyy
      obtain ⟨sa0, sl0, sc0, sa1, sl1, sc1, sa2, sl2, sc2, sa3, sl3, sc3, sa5, sl5, sc5, sa6, sl6, sc6, sa7, sl7, sc7, sa8, sl8, sc8, sa9, sl9, sc9, rfl, -⟩ := img_is.1 hI3
      have HK20 := Lib.hid (heap_alloc_new V20 (.cells #[.slice none 0 0, .slice none 0 0, .slice none 0 0, .slice none 0 0, .string ⟨#[]⟩, .slice none 0 0, .slice none 0 0, .slice none 0 0, .slice none 0 0, .slice none 0 0, .int .i64 0, .int .i64 0] 29))
      have HB21 := Lib.hid (below_box HB20.out HB20.out.size #[.slice none 0 0, .slice none 0 0, .slice none 0 0, .slice none 0 0, .string ⟨#[]⟩, .slice none 0 0, .slice none 0 0, .slice none 0 0, .slice none 0 0, .slice none 0 0, .int .i64 0, .int .i64 0] #[.slice sa0 sl0 sc0, .slice sa1 sl1 sc1, .slice sa2 sl2 sc2, .slice sa3 sl3 sc3, .string y.globals, .slice sa5 sl5 sc5, .slice sa6 sl6 sc6, .slice sa7 sl7 sc7, .slice sa8 sl8 sc8, .slice sa9 sl9 sc9, .int .i64 y.d, .int .i64 y.w])
      have HS21 := Lib.hid (box_new V20 #[.slice none 0 0, .slice none 0 0, .slice none 0 0, .slice none 0 0, .string ⟨#[]⟩, .slice none 0 0, .slice none 0 0, .slice none 0 0, .slice none 0 0, .slice none 0 0, .int .i64 0, .int .i64 0] #[.slice sa0 sl0 sc0, .slice sa1 sl1 sc1, .slice sa2 sl2 sc2, .slice sa3 sl3 sc3, .string y.globals, .slice sa5 sl5 sc5, .slice sa6 sl6 sc6, .slice sa7 sl7 sc7, .slice sa8 sl8 sc8, .slice sa9 sl9 sc9, .int .i64 y.d, .int .i64 y.w])
      have hz21 := box_size V20 #[.slice none 0 0, .slice none 0 0, .slice none 0 0, .slice none 0 0, .string ⟨#[]⟩, .slice none 0 0, .slice none 0 0, .slice none 0 0, .slice none 0 0, .slice none 0 0, .int .i64 0, .int .i64 0] #[.slice sa0 sl0 sc0, .slice sa1 sl1 sc1, .slice sa2 sl2 sc2, .slice sa3 sl3 sc3, .string y.globals, .slice sa5 sl5 sc5, .slice sa6 sl6 sc6, .slice sa7 sl7 sc7, .slice sa8 sl8 sc8, .slice sa9 sl9 sc9, .int .i64 y.d, .int .i64 y.w]
      have hI21 := shImg.wide (S' := fun k => k < ((V20.alloc (.cells #[.slice none 0 0, .slice none 0 0, .slice none 0 0, .slice none 0 0, .string ⟨#[]⟩, .slice none 0 0, .slice none 0 0, .slice none 0 0, .slice none 0 0, .slice none 0 0, .int .i64 0, .int .i64 0] 29)).setRow V20.heap.size #[.slice sa0 sl0 sc0, .slice sa1 sl1 sc1, .slice sa2 sl2 sc2, .slice sa3 sl3 sc3, .string y.globals, .slice sa5 sl5 sc5, .slice sa6 sl6 sc6, .slice sa7 sl7 sc7, .slice sa8 sl8 sc8, .slice sa9 sl9 sc9, .int .i64 y.d, .int .i64 y.w]).heap.size) (fun k hk => by rw [hz21]; omega) (shImg.keep (fun k hk => box_keep V20 #[.slice none 0 0, .slice none 0 0, .slice none 0 0, .slice none 0 0, .string ⟨#[]⟩, .slice none 0 0, .slice none 0 0, .slice none 0 0, .slice none 0 0, .slice none 0 0, .int .i64 0, .int .i64 0] #[.slice sa0 sl0 sc0, .slice sa1 sl1 sc1, .slice sa2 sl2 sc2, .slice sa3 sl3 sc3, .string y.globals, .slice sa5 sl5 sc5, .slice sa6 sl6 sc6, .slice sa7 sl7 sc7, .slice sa8 sl8 sc8, .slice sa9 sl9 sc9, .int .i64 y.d, .int .i64 y.w] k hk) hI3)
      have hly2 := lay_any _ _ y hI21
      have hone2 : (#[.slice sa0 sl0 sc0, .slice sa1 sl1 sc1, .slice sa2 sl2 sc2, .slice sa3 sl3 sc3, .string y.globals, .slice sa5 sl5 sc5, .slice sa6 sl6 sc6, .slice sa7 sl7 sc7, .slice sa8 sl8 sc8, .slice sa9 sl9 sc9, .int .i64 y.d, .int .i64 y.w] : Array Value).all (·.oneCell') = true := by simp [Value.oneCell']
      clear hI3 hI21 hz21
      go_wp2_with (first | (refine wpList_store_row rfl 29 (.tmp 15) (.tmp 95) rfl V20.heap.size #[.slice sa0 sl0 sc0, .slice sa1 sl1 sc1, .slice sa2 sl2 sc2, .slice sa3 sl3 sc3, .string y.globals, .slice sa5 sl5 sc5, .slice sa6 sl6 sc6, .slice sa7 sl7 sc7, .slice sa8 sl8 sc8, .slice sa9 sl9 sc9, .int .i64 y.d, .int .i64 y.w] rfl rfl 29 #[.slice none 0 0, .slice none 0 0, .slice none 0 0, .slice none 0 0, .string ⟨#[]⟩, .slice none 0 0, .slice none 0 0, .slice none 0 0, .slice none 0 0, .slice none 0 0, .int .i64 0, .int .i64 0] HK20.out size29 rfl hone2 ?_) | (refine wpList_load_row rfl 29 (.tmp 15) rfl V20.heap.size rfl 29 #[.slice sa0 sl0 sc0, .slice sa1 sl1 sc1, .slice sa2 sl2 sc2, .slice sa3 sl3 sc3, .string y.globals, .slice sa5 sl5 sc5, .slice sa6 sl6 sc6, .slice sa7 sl7 sc7, .slice sa8 sl8 sc8, .slice sa9 sl9 sc9, .int .i64 y.d, .int .i64 y.w] (0, 0) _ HS21.out Tryz.underlying29 rfl size29 ?_) | (go_at_call 9; refine hly2.mono ?_))
      rintro e V22 ⟨hla, hb22⟩
      have HB22 := Lib.hid (HB21.out.trans (hb22.mono HB21.out.size))
      clear hly2 hb22 hone2
      rcases hla with ⟨hful, _⟩ | ⟨_, g2, cap2, rfl, hown2⟩
      · rw [hrl] at hful; cases hful
      rw [hrl] at hown2 ⊢
      simp only [hnb] at hown2 ⊢
      have heq := eq_bytes _ _ V22 _ _ _ _ _ _ Bb (bytes_of_own hown2) (HBB.out.keep (fun k hk => HB22.out.block k hk))
      clear hown2 hrl
      go_wp2_with (go_at_call 11; refine heq.mono ?_)
      rintro e V23 ⟨rfl, m, hV23⟩
      have HB23 := Lib.hid (show Below W.heap.size W V23 by rw [hV23]; exact below_drew HB22.out m)
      clear heq hV23
      go_wp2_with (go_at_call 8; refine (awake_any V23 (HE.out.keep HB23.out hs0)).mono ?_)
      rintro e V24 ⟨rfl, hbz⟩
      have HBZ := Lib.hid (HB23.out.trans (hbz.mono HB23.out.size))
      clear hbz
      go_wp2_with fail
      go_returns
      exact ⟨rfl, HBZ.out⟩
    · have HK20 := Lib.hid (heap_alloc_new V20 (.cells #[.slice none 0 0, .slice none 0 0, .slice none 0 0, .slice none 0 0, .string ⟨#[]⟩, .slice none 0 0, .slice none 0 0, .slice none 0 0, .slice none 0 0, .slice none 0 0, .int .i64 0, .int .i64 0] 29))
      have HB21 := Lib.hid (below_box HB20.out HB20.out.size #[.slice none 0 0, .slice none 0 0, .slice none 0 0, .slice none 0 0, .string ⟨#[]⟩, .slice none 0 0, .slice none 0 0, .slice none 0 0, .slice none 0 0, .slice none 0 0, .int .i64 0, .int .i64 0] #[.slice none 0 0, .slice none 0 0, .slice none 0 0, .slice none 0 0, .string ⟨#[]⟩, .slice none 0 0, .slice none 0 0, .slice none 0 0, .slice none 0 0, .slice none 0 0, .int .i64 0, .int .i64 0])
      have HS21 := Lib.hid (box_new V20 #[.slice none 0 0, .slice none 0 0, .slice none 0 0, .slice none 0 0, .string ⟨#[]⟩, .slice none 0 0, .slice none 0 0, .slice none 0 0, .slice none 0 0, .slice none 0 0, .int .i64 0, .int .i64 0] #[.slice none 0 0, .slice none 0 0, .slice none 0 0, .slice none 0 0, .string ⟨#[]⟩, .slice none 0 0, .slice none 0 0, .slice none 0 0, .slice none 0 0, .slice none 0 0, .int .i64 0, .int .i64 0])
      have hgf2 := box_old hgf #[.slice none 0 0, .slice none 0 0, .slice none 0 0, .slice none 0 0, .string ⟨#[]⟩, .slice none 0 0, .slice none 0 0, .slice none 0 0, .slice none 0 0, .slice none 0 0, .int .i64 0, .int .i64 0] #[.slice none 0 0, .slice none 0 0, .slice none 0 0, .slice none 0 0, .string ⟨#[]⟩, .slice none 0 0, .slice none 0 0, .slice none 0 0, .slice none 0 0, .slice none 0 0, .int .i64 0, .int .i64 0]
      have hcd := code_err 19 gf _ (HE.out.keep HB21.out hs0) hgf2
      clear hgf hgf2
      go_wp2_with (first | (refine wpList_store_row rfl 29 (.tmp 15) (.tmp 95) rfl V20.heap.size #[.slice none 0 0, .slice none 0 0, .slice none 0 0, .slice none 0 0, .string ⟨#[]⟩, .slice none 0 0, .slice none 0 0, .slice none 0 0, .slice none 0 0, .slice none 0 0, .int .i64 0, .int .i64 0] rfl rfl 29 #[.slice none 0 0, .slice none 0 0, .slice none 0 0, .slice none 0 0, .string ⟨#[]⟩, .slice none 0 0, .slice none 0 0, .slice none 0 0, .slice none 0 0, .slice none 0 0, .int .i64 0, .int .i64 0] HK20.out size29 rfl zero_one ?_) | (go_at_call 12; refine hcd.mono ?_))
      rintro e V22 ⟨rfl, hb22⟩
      have HB22 := Lib.hid (HB21.out.trans (hb22.mono HB21.out.size))
      have HS22 := Lib.hid ((hb22.block _ (heap_lt HS21.out)).trans HS21.out)
      have heq := eq_image 0 V22 _ _ imgZ (isZ _ _) (isZ _ _) (Nat.zero_le _)
      clear hcd hb22
      have q0 : V22.cell? ⟨V20.heap.size, 0, none⟩ = some (.slice none 0 0) := by rw [Lib.cell_of_heap HS22.out]; rfl
      have q1 : V22.cell? ⟨V20.heap.size, 1, none⟩ = some (.slice none 0 0) := by rw [Lib.cell_of_heap HS22.out]; rfl
      have q2 : V22.cell? ⟨V20.heap.size, 2, none⟩ = some (.slice none 0 0) := by rw [Lib.cell_of_heap HS22.out]; rfl
      have q3 : V22.cell? ⟨V20.heap.size, 3, none⟩ = some (.slice none 0 0) := by rw [Lib.cell_of_heap HS22.out]; rfl
      have q4 : V22.cell? ⟨V20.heap.size, 4, none⟩ = some (.string ⟨#[]⟩) := by rw [Lib.cell_of_heap HS22.out]; rfl
      have q5 : V22.cell? ⟨V20.heap.size, 5, none⟩ = some (.slice none 0 0) := by rw [Lib.cell_of_heap HS22.out]; rfl
      have q6 : V22.cell? ⟨V20.heap.size, 6, none⟩ = some (.slice none 0 0) := by rw [Lib.cell_of_heap HS22.out]; rfl
      have q7 : V22.cell? ⟨V20.heap.size, 7, none⟩ = some (.slice none 0 0) := by rw [Lib.cell_of_heap HS22.out]; rfl
      have q8 : V22.cell? ⟨V20.heap.size, 8, none⟩ = some (.slice none 0 0) := by rw [Lib.cell_of_heap HS22.out]; rfl
      have q9 : V22.cell? ⟨V20.heap.size, 9, none⟩ = some (.slice none 0 0) := by rw [Lib.cell_of_heap HS22.out]; rfl
      have q10 : V22.cell? ⟨V20.heap.size, 10, none⟩ = some (.int .i64 0) := by rw [Lib.cell_of_heap HS22.out]; rfl
      have q11 : V22.cell? ⟨V20.heap.size, 11, none⟩ = some (.int .i64 0) := by rw [Lib.cell_of_heap HS22.out]; rfl
      go_wp2_with (go_at_call 14; refine heq.mono ?_)
      rintro e V23 ⟨rfl, hb23⟩
      have HB23 := Lib.hid (HB22.out.trans (hb23.mono HB22.out.size))
      clear heq hb23
      clear q0 q1 q2 q3 q4 q5 q6 q7 q8 q9 q10 q11
      go_wp2_with (go_at_call 8; refine (awake_any V23 (HE.out.keep HB23.out hs0)).mono ?_)
      rintro e V24 ⟨rfl, hbz⟩
      have HBZ := Lib.hid (HB23.out.trans (hbz.mono HB23.out.size))
      clear hbz
      go_wp2_with fail
      go_returns
      exact ⟨rfl, HBZ.out⟩
  · have hfr := lay_fresh hful rfl
    have hgrow := lay_len x
    have hpos := lay_pos hful
    obtain ⟨bs, hbs⟩ : ∃ bs, (layOf x).bs = bs := ⟨_, rfl⟩
    rw [hbs] at hown hfr hgrow hpos ⊢
    obtain ⟨n, hn⟩ : ∃ n, bs.length = n := ⟨_, rfl⟩
    simp only [hn] at hown hgrow hpos ⊢
    have hby := bytes_of_own hown
    have hrd1 := read_any V2 bs (some ⟨g, 0, none⟩) n cap hby (by omega)
    have hn0 : ((n : Int) == 0) = false := by simp; omega
    have hcap : n ≤ cap := hby.2.1
    have hcapm : cap ≤ 9223372036854775807 := by have := hby.2.2.1; unfold maxLen at this; omega
    have HBY := Lib.hid hby
    have HN := Lib.hid hn
    clear hbs hown hful hby hn
    go_wp2_with (go_at_call 17; refine hrd1.mono ?_)
    rintro e V3 ⟨ha, hb3⟩
    clear hrd1
    replace ha : ∃ vs, e = .returned (.tuple #[.agg vs.toArray, .nilIface]) ∧ shImg.Is (fun k => V2.heap.size ≤ k ∧ k < V3.heap.size) V3 vs x := by
      rcases ha with ⟨_, h⟩ | ⟨hno, _⟩
      · rw [hfr.2] at h; exact h
      · rw [hfr.1] at hno; cases hno
    obtain ⟨vs1, rfl, hI1⟩ := ha
    have HFR := Lib.hid hfr.1
    have hI1' := shImg.wide (S' := fun k => k < V3.heap.size) (fun k hk => hk.2) hI1
    have HBY3 := Lib.hid (HBY.out.keep (fun k hk => hb3.block k hk))
    have HB3 := Lib.hid (HB2.out.trans (hb3.mono HB2.out.size))
    have HX3 := Lib.hid ((hb3.block _ (heap_lt HX2.out)).trans HX2.out)
    have hs23 := hb3.size
    clear hI1 hb3 hfr
    obtain ⟨ra0, rl0, rc0, ra1, rl1, rc1, ra2, rl2, rc2, ra3, rl3, rc3, ra5, rl5, rc5, ra6, rl6, rc6, ra7, rl7, rc7, ra8, rl8, rc8, ra9, rl9, rc9, rfl, -⟩ := img_is.1 hI1'
    have HK3 := Lib.hid (heap_alloc_new V3 (.cells #[.slice none 0 0, .slice none 0 0, .slice none 0 0, .slice none 0 0, .string ⟨#[]⟩, .slice none 0 0, .slice none 0 0, .slice none 0 0, .slice none 0 0, .slice none 0 0, .int .i64 0, .int .i64 0] 29))
    have HB4 := Lib.hid (below_box HB3.out HB3.out.size #[.slice none 0 0, .slice none 0 0, .slice none 0 0, .slice none 0 0, .string ⟨#[]⟩, .slice none 0 0, .slice none 0 0, .slice none 0 0, .slice none 0 0, .slice none 0 0, .int .i64 0, .int .i64 0] #[.slice ra0 rl0 rc0, .slice ra1 rl1 rc1, .slice ra2 rl2 rc2, .slice ra3 rl3 rc3, .string x.globals, .slice ra5 rl5 rc5, .slice ra6 rl6 rc6, .slice ra7 rl7 rc7, .slice ra8 rl8 rc8, .slice ra9 rl9 rc9, .int .i64 x.d, .int .i64 x.w])
    have HR4 := Lib.hid (box_new V3 #[.slice none 0 0, .slice none 0 0, .slice none 0 0, .slice none 0 0, .string ⟨#[]⟩, .slice none 0 0, .slice none 0 0, .slice none 0 0, .slice none 0 0, .slice none 0 0, .int .i64 0, .int .i64 0] #[.slice ra0 rl0 rc0, .slice ra1 rl1 rc1, .slice ra2 rl2 rc2, .slice ra3 rl3 rc3, .string x.globals, .slice ra5 rl5 rc5, .slice ra6 rl6 rc6, .slice ra7 rl7 rc7, .slice ra8 rl8 rc8, .slice ra9 rl9 rc9, .int .i64 x.d, .int .i64 x.w])
    have HX4 := Lib.hid (box_old HX3.out #[.slice none 0 0, .slice none 0 0, .slice none 0 0, .slice none 0 0, .string ⟨#[]⟩, .slice none 0 0, .slice none 0 0, .slice none 0 0, .slice none 0 0, .slice none 0 0, .int .i64 0, .int .i64 0] #[.slice ra0 rl0 rc0, .slice ra1 rl1 rc1, .slice ra2 rl2 rc2, .slice ra3 rl3 rc3, .string x.globals, .slice ra5 rl5 rc5, .slice ra6 rl6 rc6, .slice ra7 rl7 rc7, .slice ra8 rl8 rc8, .slice ra9 rl9 rc9, .int .i64 x.d, .int .i64 x.w])
    have hz4 := box_size V3 #[.slice none 0 0, .slice none 0 0, .slice none 0 0, .slice none 0 0, .string ⟨#[]⟩, .slice none 0 0, .slice none 0 0, .slice none 0 0, .slice none 0 0, .slice none 0 0, .int .i64 0, .int .i64 0] #[.slice ra0 rl0 rc0, .slice ra1 rl1 rc1, .slice ra2 rl2 rc2, .slice ra3 rl3 rc3, .string x.globals, .slice ra5 rl5 rc5, .slice ra6 rl6 rc6, .slice ra7 rl7 rc7, .slice ra8 rl8 rc8, .slice ra9 rl9 rc9, .int .i64 x.d, .int .i64 x.w]
    have HI4 := Lib.hid (shImg.wide (S' := fun k => k < ((V3.alloc (.cells #[.slice none 0 0, .slice none 0 0, .slice none 0 0, .slice none 0 0, .string ⟨#[]⟩, .slice none 0 0, .slice none 0 0, .slice none 0 0, .slice none 0 0, .slice none 0 0, .int .i64 0, .int .i64 0] 29)).setRow V3.heap.size #[.slice ra0 rl0 rc0, .slice ra1 rl1 rc1, .slice ra2 rl2 rc2, .slice ra3 rl3 rc3, .string x.globals, .slice ra5 rl5 rc5, .slice ra6 rl6 rc6, .slice ra7 rl7 rc7, .slice ra8 rl8 rc8, .slice ra9 rl9 rc9, .int .i64 x.d, .int .i64 x.w]).heap.size) (fun k hk => by rw [hz4]; omega) (shImg.keep (fun k hk => box_keep V3 #[.slice none 0 0, .slice none 0 0, .slice none 0 0, .slice none 0 0, .string ⟨#[]⟩, .slice none 0 0, .slice none 0 0, .slice none 0 0, .slice none 0 0, .slice none 0 0, .int .i64 0, .int .i64 0] #[.slice ra0 rl0 rc0, .slice ra1 rl1 rc1, .slice ra2 rl2 rc2, .slice ra3 rl3 rc3, .string x.globals, .slice ra5 rl5 rc5, .slice ra6 rl6 rc6, .slice ra7 rl7 rc7, .slice ra8 rl8 rc8, .slice ra9 rl9 rc9, .int .i64 x.d, .int .i64 x.w] k hk) hI1'))
    have HBY4 := Lib.hid (HBY3.out.keep (fun k hk => box_keep V3 #[.slice none 0 0, .slice none 0 0, .slice none 0 0, .slice none 0 0, .string ⟨#[]⟩, .slice none 0 0, .slice none 0 0, .slice none 0 0, .slice none 0 0, .slice none 0 0, .int .i64 0, .int .i64 0] #[.slice ra0 rl0 rc0, .slice ra1 rl1 rc1, .slice ra2 rl2 rc2, .slice ra3 rl3 rc3, .string x.globals, .slice ra5 rl5 rc5, .slice ra6 rl6 rc6, .slice ra7 rl7 rc7, .slice ra8 rl8 rc8, .slice ra9 rl9 rc9, .int .i64 x.d, .int .i64 x.w] k (by omega)))
    have hone1 : (#[.slice ra0 rl0 rc0, .slice ra1 rl1 rc1, .slice ra2 rl2 rc2, .slice ra3 rl3 rc3, .string x.globals, .slice ra5 rl5 rc5, .slice ra6 rl6 rc6, .slice ra7 rl7 rc7, .slice ra8 rl8 rc8, .slice ra9 rl9 rc9, .int .i64 x.d, .int .i64 x.w] : Array Value).all (·.oneCell') = true := by simp [Value.oneCell']
    have HZ4 := Lib.hid hz4
    clear hI1' hz4
    have hlow := low_bd cut n (by omega)
    have hlw := low_any cut n (by omega) (by omega) ((V3.alloc (.cells #[.slice none 0 0, .slice none 0 0, .slice none 0 0, .slice none 0 0, .string ⟨#[]⟩, .slice none 0 0, .slice none 0 0, .slice none 0 0, .slice none 0 0, .slice none 0 0, .int .i64 0, .int .i64 0] 29)).setRow V3.heap.size #[.slice ra0 rl0 rc0, .slice ra1 rl1 rc1, .slice ra2 rl2 rc2, .slice ra3 rl3 rc3, .string x.globals, .slice ra5 rl5 rc5, .slice ra6 rl6 rc6, .slice ra7 rl7 rc7, .slice ra8 rl8 rc8, .slice ra9 rl9 rc9, .int .i64 x.d, .int .i64 x.w])
    obtain ⟨kk, hkk⟩ : ∃ kk : Nat, low cut n = (kk : Int) := ⟨(low cut n).toNat, by omega⟩
    rw [hkk] at hlow hlw
    have i0 : (0 : Int) ≤ (kk : Int) := by omega
    have i1 : (kk : Int) ≤ (cap : Int) := by omega
    have HKK := Lib.hid hlow
    clear hkk hlow
    have hno1 : readOk (bs.take kk) = false := by
      cases hro : readOk (bs.take kk) with
      | false => rfl
      | true =>
        have h1 := HFR.out
        rw [show bs = bs.take kk ++ bs.drop kk from (List.take_append_drop kk bs).symm] at h1
        have h2 := read_part hro h1
        have h3 := congrArg List.length h2
        have h4 := HN.out
        have h5 := HKK.out
        simp at h3
        omega
    have htk : (bs.take kk).length = kk := by rw [List.length_take, HN.out]; have := HKK.out; omega
    have hrd2 := read_any ((V3.alloc (.cells #[.slice none 0 0, .slice none 0 0, .slice none 0 0, .slice none 0 0, .string ⟨#[]⟩, .slice none 0 0, .slice none 0 0, .slice none 0 0, .slice none 0 0, .slice none 0 0, .int .i64 0, .int .i64 0] 29)).setRow V3.heap.size #[.slice ra0 rl0 rc0, .slice ra1 rl1 rc1, .slice ra2 rl2 rc2, .slice ra3 rl3 rc3, .string x.globals, .slice ra5 rl5 rc5, .slice ra6 rl6 rc6, .slice ra7 rl7 rc7, .slice ra8 rl8 rc8, .slice ra9 rl9 rc9, .int .i64 x.d, .int .i64 x.w]) (bs.take kk) (some ⟨g, 0, none⟩) kk cap (by
      obtain ⟨b1, b2, b3, b4⟩ := HBY4.out
      refine ⟨htk, by have := HKK.out; omega, b3, ?_⟩
      rcases b4 with ⟨h, _⟩ | ⟨bb, o, h, hb, hc⟩
      · cases h
      · refine .inr ⟨bb, o, h, by rw [HZ4.out]; omega, fun j c hj => ?_⟩
        rw [List.getElem?_take] at hj
        split at hj
        · exact hc j c hj
        · cases hj) (Nat.le_trans (Nat.le_of_eq htk) (by have := HKK.out; omega))
    clear htk
    go_wp2_with (first | (refine wpList_store_row rfl 29 (.tmp 9) (.tmp 44) rfl V3.heap.size #[.slice ra0 rl0 rc0, .slice ra1 rl1 rc1, .slice ra2 rl2 rc2, .slice ra3 rl3 rc3, .string x.globals, .slice ra5 rl5 rc5, .slice ra6 rl6 rc6, .slice ra7 rl7 rc7, .slice ra8 rl8 rc8, .slice ra9 rl9 rc9, .int .i64 x.d, .int .i64 x.w] rfl rfl 29 #[.slice none 0 0, .slice none 0 0, .slice none 0 0, .slice none 0 0, .string ⟨#[]⟩, .slice none 0 0, .slice none 0 0, .slice none 0 0, .slice none 0 0, .slice none 0 0, .int .i64 0, .int .i64 0] HK3.out size29 rfl hone1 ?_) | (go_at_call 19; refine hlw.mono ?_; rintro e w' ⟨rfl, rfl⟩) | (go_at_call 17; refine hrd2.mono ?_))
    rintro e V5 ⟨ha, hb5⟩
    clear hrd2 hlw hone1 i0 i1
    rcases ha with ⟨hyes, _⟩ | ⟨_, g1, rfl, hg1⟩
    · rw [hno1] at hyes; cases hyes
    rw [HZ4.out] at hb5
    have HB5 := Lib.hid (HB4.out.trans (hb5.mono (by have := HB3.out.size; omega)))
    have HR5 := Lib.hid ((hb5.block V3.heap.size (by omega)).trans HR4.out)
    have HX5 := Lib.hid ((hb5.block W.heap.size (by have := heap_lt HX3.out; omega)).trans HX4.out)
    have hI5 := shImg.keep (W' := V5) (fun k hk => hb5.block k (by have := HZ4.out; omega)) HI4.out
    have HBY5 := Lib.hid (HBY4.out.keep (fun k hk => hb5.block k (by omega)))
    have hs5 := hb5.size
    rw [HZ4.out] at hs5
    have HK5 := Lib.hid (heap_alloc_new V5 (.cells #[.slice none 0 0, .slice none 0 0, .slice none 0 0, .slice none 0 0, .string ⟨#[]⟩, .slice none 0 0, .slice none 0 0, .slice none 0 0, .slice none 0 0, .slice none 0 0, .int .i64 0, .int .i64 0] 29))
    have HB6 := Lib.hid (below_box HB5.out HB5.out.size #[.slice none 0 0, .slice none 0 0, .slice none 0 0, .slice none 0 0, .string ⟨#[]⟩, .slice none 0 0, .slice none 0 0, .slice none 0 0, .slice none 0 0, .slice none 0 0, .int .i64 0, .int .i64 0] #[.slice none 0 0, .slice none 0 0, .slice none 0 0, .slice none 0 0, .string ⟨#[]⟩, .slice none 0 0, .slice none 0 0, .slice none 0 0, .slice none 0 0, .slice none 0 0, .int .i64 0, .int .i64 0])
    have HR6 := Lib.hid (box_old HR5.out #[.slice none 0 0, .slice none 0 0, .slice none 0 0, .slice none 0 0, .string ⟨#[]⟩, .slice none 0 0, .slice none 0 0, .slice none 0 0, .slice none 0 0, .slice none 0 0, .int .i64 0, .int .i64 0] #[.slice none 0 0, .slice none 0 0, .slice none 0 0, .slice none 0 0, .string ⟨#[]⟩, .slice none 0 0, .slice none 0 0, .slice none 0 0, .slice none 0 0, .slice none 0 0, .int .i64 0, .int .i64 0])
    have HX6 := Lib.hid (box_old HX5.out #[.slice none 0 0, .slice none 0 0, .slice none 0 0, .slice none 0 0, .string ⟨#[]⟩, .slice none 0 0, .slice none 0 0, .slice none 0 0, .slice none 0 0, .slice none 0 0, .int .i64 0, .int .i64 0] #[.slice none 0 0, .slice none 0 0, .slice none 0 0, .slice none 0 0, .string ⟨#[]⟩, .slice none 0 0, .slice none 0 0, .slice none 0 0, .slice none 0 0, .slice none 0 0, .int .i64 0, .int .i64 0])
    have HG6 := Lib.hid (box_old hg1 #[.slice none 0 0, .slice none 0 0, .slice none 0 0, .slice none 0 0, .string ⟨#[]⟩, .slice none 0 0, .slice none 0 0, .slice none 0 0, .slice none 0 0, .slice none 0 0, .int .i64 0, .int .i64 0] #[.slice none 0 0, .slice none 0 0, .slice none 0 0, .slice none 0 0, .string ⟨#[]⟩, .slice none 0 0, .slice none 0 0, .slice none 0 0, .slice none 0 0, .slice none 0 0, .int .i64 0, .int .i64 0])
    have hI6 := shImg.keep (W' := (V5.alloc (.cells #[.slice none 0 0, .slice none 0 0, .slice none 0 0, .slice none 0 0, .string ⟨#[]⟩, .slice none 0 0, .slice none 0 0, .slice none 0 0, .slice none 0 0, .slice none 0 0, .int .i64 0, .int .i64 0] 29)).setRow V5.heap.size #[.slice none 0 0, .slice none 0 0, .slice none 0 0, .slice none 0 0, .string ⟨#[]⟩, .slice none 0 0, .slice none 0 0, .slice none 0 0, .slice none 0 0, .slice none 0 0, .int .i64 0, .int .i64 0]) (fun k hk => box_keep V5 #[.slice none 0 0, .slice none 0 0, .slice none 0 0, .slice none 0 0, .string ⟨#[]⟩, .slice none 0 0, .slice none 0 0, .slice none 0 0, .slice none 0 0, .slice none 0 0, .int .i64 0, .int .i64 0] #[.slice none 0 0, .slice none 0 0, .slice none 0 0, .slice none 0 0, .string ⟨#[]⟩, .slice none 0 0, .slice none 0 0, .slice none 0 0, .slice none 0 0, .slice none 0 0, .int .i64 0, .int .i64 0] k (by have := HZ4.out; omega)) hI5
    have HBY6 := Lib.hid (HBY5.out.keep (fun k hk => box_keep V5 #[.slice none 0 0, .slice none 0 0, .slice none 0 0, .slice none 0 0, .string ⟨#[]⟩, .slice none 0 0, .slice none 0 0, .slice none 0 0, .slice none 0 0, .slice none 0 0, .int .i64 0, .int .i64 0] #[.slice none 0 0, .slice none 0 0, .slice none 0 0, .slice none 0 0, .string ⟨#[]⟩, .slice none 0 0, .slice none 0 0, .slice none 0 0, .slice none 0 0, .slice none 0 0, .int .i64 0, .int .i64 0] k (by omega)))
    have HI6 := Lib.hid hI6
    have HZ6 := Lib.hid (box_size V5 #[.slice none 0 0, .slice none 0 0, .slice none 0 0, .slice none 0 0, .string ⟨#[]⟩, .slice none 0 0, .slice none 0 0, .slice none 0 0, .slice none 0 0, .slice none 0 0, .int .i64 0, .int .i64 0] #[.slice none 0 0, .slice none 0 0, .slice none 0 0, .slice none 0 0, .string ⟨#[]⟩, .slice none 0 0, .slice none 0 0, .slice none 0 0, .slice none 0 0, .slice none 0 0, .int .i64 0, .int .i64 0])
    clear hg1 hb5 hI5 hI6 hno1
    obtain ⟨i00, hi, hz0, hz1, hz2⟩ := info_parts info5
    have hcells : ∀ j u, (byteCells bs)[j]? = some u → ((V5.alloc (.cells #[.slice none 0 0, .slice none 0 0, .slice none 0 0, .slice none 0 0, .string ⟨#[]⟩, .slice none 0 0, .slice none 0 0, .slice none 0 0, .slice none 0 0, .slice none 0 0, .int .i64 0, .int .i64 0] 29)).setRow V5.heap.size #[.slice none 0 0, .slice none 0 0, .slice none 0 0, .slice none 0 0, .string ⟨#[]⟩, .slice none 0 0, .slice none 0 0, .slice none 0 0, .slice none 0 0, .slice none 0 0, .int .i64 0, .int .i64 0]).cell? ((⟨g, 0, none⟩ : Addr).add j) = some u := by
      intro j u hj
      obtain ⟨_, _, _, b4⟩ := HBY6.out
      rcases b4 with ⟨h, _⟩ | ⟨bb, o, h, _, hc⟩
      · cases h
      · simp only [Option.some.injEq, Addr.mk.injEq, and_true] at h
        obtain ⟨rfl, rfl⟩ := h
        simp only [byteCells, List.getElem?_map, Option.map_eq_some_iff] at hj
        obtain ⟨c, hj, rfl⟩ := hj
        rw [add_at rfl]
        exact hc j c hj
    have hby1 : ∀ u ∈ byteCells bs, u.oneCell' = true := by
      intro u hu
      simp only [byteCells, List.mem_map] at hu
      obtain ⟨c, _, rfl⟩ := hu
      rfl
    have HCL := Lib.hid hcells
    have HB1C := Lib.hid hby1
    clear hcells hby1
    go_wp2_with (first | (refine wpList_store_row rfl 29 (.tmp 11) (.tmp 54) rfl V5.heap.size #[.slice none 0 0, .slice none 0 0, .slice none 0 0, .slice none 0 0, .string ⟨#[]⟩, .slice none 0 0, .slice none 0 0, .slice none 0 0, .slice none 0 0, .slice none 0 0, .int .i64 0, .int .i64 0] rfl rfl 29 #[.slice none 0 0, .slice none 0 0, .slice none 0 0, .slice none 0 0, .string ⟨#[]⟩, .slice none 0 0, .slice none 0 0, .slice none 0 0, .slice none 0 0, .slice none 0 0, .int .i64 0, .int .i64 0] HK5.out size29 rfl zero_one ?_) | (at_builtin; refine wpList_append_own _ rfl (.const (.slice none 0 0)) (.tmp 57) 32 rfl (V5.heap.size + 1) 5 i00 (.int .u8 0) 1 1 Tryz.underlying32 hi hz0 hz1 hz2 rfl (by decide) (.slice none 0 0) 0 [] rfl (World.ownsRow_nil _ _ _ _) ⟨g, 0, none⟩ n cap (byteCells bs) rfl (by rw [byteCells_len, HN.out]; omega) HCL.out HB1C.out ?c3 ?c4 ?c5 ?_))
    case c3 => unfold maxLen; omega
    case c4 => omega
    case c5 => rw [HZ6.out]; exact Nat.le_refl _
    intro v7 V7 hown7 hgrow7 _
    obtain ⟨g7, cap7, rfl⟩ := Joins.ownsRow_form hown7 (by omega)
    have hk7 : ∀ k, k < V5.heap.size + 1 → V7.heap[k]? = ((V5.alloc (.cells #[.slice none 0 0, .slice none 0 0, .slice none 0 0, .slice none 0 0, .string ⟨#[]⟩, .slice none 0 0, .slice none 0 0, .slice none 0 0, .slice none 0 0, .slice none 0 0, .int .i64 0, .int .i64 0] 29)).setRow V5.heap.size #[.slice none 0 0, .slice none 0 0, .slice none 0 0, .slice none 0 0, .string ⟨#[]⟩, .slice none 0 0, .slice none 0 0, .slice none 0 0, .slice none 0 0, .slice none 0 0, .int .i64 0, .int .i64 0]).heap[k]? := fun k hk => hgrow7.block k (by rw [HZ6.out]; exact hk) (by simp [Value.ownBlock])
    have hs7 : V5.heap.size + 1 ≤ V7.heap.size := by have := hgrow7.size; rw [HZ6.out] at this; exact this
    have HB7 := Lib.hid (show Below W.heap.size W V7 from ⟨hgrow7.os.trans HB6.out.os, hgrow7.tape.trans HB6.out.tape, hgrow7.output.trans HB6.out.output, Nat.le_trans HB6.out.size hgrow7.size, fun k hk => (hk7 k (by have := HB5.out.size; omega)).trans (HB6.out.block k hk)⟩)
    have HR7 := Lib.hid ((hk7 V3.heap.size (by omega)).trans HR6.out)
    have HX7 := Lib.hid ((hk7 W.heap.size (by have := HB5.out.size; omega)).trans HX6.out)
    have HG7 := Lib.hid ((hk7 g1 (by have := heap_lt HG6.out; rw [HZ6.out] at this; exact this)).trans HG6.out)
    have HI7 := Lib.hid (shImg.keep (W' := V7) (fun k hk => hk7 k (by rw [HZ4.out] at hk; omega)) HI6.out)
    have HO7 := Lib.hid hown7
    clear hgrow7 hown7 hk7
    obtain ⟨cbyte, hcb⟩ : ∃ cbyte : UInt8, (cbyte.toNat : Int) = cut % 256 := ⟨UInt8.ofNat (cut % 256).toNat, by rw [UInt8.toNat_ofNat']; omega⟩
    go_wp2_with (at_builtin; refine wpList_append_own _ rfl (.tmp 58) (.tmp 61) 32 rfl (V5.heap.size + 1) 5 i00 (.int .u8 0) 1 1 Tryz.underlying32 hi hz0 hz1 hz2 rfl (by decide) _ n (byteCells bs) rfl (HO7.out.alloc _) ⟨V7.heap.size, 0, none⟩ 1 1 [.int .u8 (cut % 256)] rfl rfl ?c1 ?c2 ?c3 ?c4 ?c5 ?_)
    case c1 => exact lit_cells V7 #[.int .u8 (cut % 256)] 5
    case c2 => intro u hu; simp only [List.mem_singleton] at hu; subst hu; rfl
    case c3 => unfold maxLen; omega
    case c4 => omega
    case c5 => simp; omega
    intro v8 V8 hown8 hgrow8 _
    obtain ⟨g8, cap8, rfl⟩ := Joins.ownsRow_form hown8 (by omega)
    have hbc : byteCells bs ++ [Value.int .u8 (cut % 256)] = byteCells (bs ++ [cbyte]) := by rw [byteCells_app]; simp [byteCells, hcb]
    rw [hbc] at hown8
    have hk8 : ∀ k, k < V5.heap.size + 1 → V8.heap[k]? = V7.heap[k]? := fun k hk => (hgrow8.block k (by simp; omega) (fun e => by have := (own_type HO7.out e.symm).1; omega)).trans (Below.heap_alloc _ _ _ (by omega))
    have hs8 : V7.heap.size + 1 ≤ V8.heap.size := by have := hgrow8.size; simpa using this
    have HB8 := Lib.hid (show Below W.heap.size W V8 from ⟨hgrow8.os.trans HB7.out.os, hgrow8.tape.trans HB7.out.tape, hgrow8.output.trans HB7.out.output, by have := HB7.out.size; omega, fun k hk => (hk8 k (by have := HB5.out.size; omega)).trans (HB7.out.block k hk)⟩)
    have HR8 := Lib.hid ((hk8 V3.heap.size (by omega)).trans HR7.out)
    have HX8 := Lib.hid ((hk8 W.heap.size (by have := HB5.out.size; omega)).trans HX7.out)
    have hg1lt : g1 < V5.heap.size + 1 := by have := heap_lt HG6.out; rw [HZ6.out] at this; exact this
    have HG8 := Lib.hid ((hk8 g1 hg1lt).trans HG7.out)
    have HI8 := Lib.hid (shImg.keep (W' := V8) (fun k hk => hk8 k (by rw [HZ4.out] at hk; omega)) HI7.out)
    have hbl8 : (bs ++ [cbyte]).length = n + 1 := by rw [List.length_append, HN.out]; rfl
    have hno2 : readOk (bs ++ [cbyte]) = false := by
      cases hro : readOk (bs ++ [cbyte]) with
      | false => rfl
      | true => have := read_part HFR.out hro; cases this
    have hrd3 := read_any V8 (bs ++ [cbyte]) (some ⟨g8, 0, none⟩) (n + 1) cap8 (bytes_of_own hown8) (by rw [hbl8]; omega)
    clear hgrow8 hown8 hk8 hbl8 hbc hcb
    go_wp2_with (go_at_call 17; refine hrd3.mono ?_)
    rintro e V9 ⟨ha, hb9⟩
    clear hrd3
    rcases ha with ⟨hyes, _⟩ | ⟨_, g2, rfl, hg2⟩
    · rw [hno2] at hyes; cases hyes
    have HB9 := Lib.hid (HB8.out.trans (hb9.mono HB8.out.size))
    have HR9 := Lib.hid ((hb9.block _ (heap_lt HR8.out)).trans HR8.out)
    have HX9 := Lib.hid ((hb9.block _ (heap_lt HX8.out)).trans HX8.out)
    have HG9 := Lib.hid ((hb9.block _ (heap_lt HG8.out)).trans HG8.out)
    have hI9 := shImg.keep (W' := V9) (fun k hk => hb9.block k (by rw [HZ4.out] at hk; omega)) HI8.out
    have hs9 := hb9.size
    have HK9 := Lib.hid (heap_alloc_new V9 (.cells #[.slice none 0 0, .slice none 0 0, .slice none 0 0, .slice none 0 0, .string ⟨#[]⟩, .slice none 0 0, .slice none 0 0, .slice none 0 0, .slice none 0 0, .slice none 0 0, .int .i64 0, .int .i64 0] 29))
    have HB10 := Lib.hid (below_box HB9.out HB9.out.size #[.slice none 0 0, .slice none 0 0, .slice none 0 0, .slice none 0 0, .string ⟨#[]⟩, .slice none 0 0, .slice none 0 0, .slice none 0 0, .slice none 0 0, .slice none 0 0, .int .i64 0, .int .i64 0] #[.slice none 0 0, .slice none 0 0, .slice none 0 0, .slice none 0 0, .string ⟨#[]⟩, .slice none 0 0, .slice none 0 0, .slice none 0 0, .slice none 0 0, .slice none 0 0, .int .i64 0, .int .i64 0])
    have HR10 := Lib.hid (box_old HR9.out #[.slice none 0 0, .slice none 0 0, .slice none 0 0, .slice none 0 0, .string ⟨#[]⟩, .slice none 0 0, .slice none 0 0, .slice none 0 0, .slice none 0 0, .slice none 0 0, .int .i64 0, .int .i64 0] #[.slice none 0 0, .slice none 0 0, .slice none 0 0, .slice none 0 0, .string ⟨#[]⟩, .slice none 0 0, .slice none 0 0, .slice none 0 0, .slice none 0 0, .slice none 0 0, .int .i64 0, .int .i64 0])
    have HX10 := Lib.hid (box_old HX9.out #[.slice none 0 0, .slice none 0 0, .slice none 0 0, .slice none 0 0, .string ⟨#[]⟩, .slice none 0 0, .slice none 0 0, .slice none 0 0, .slice none 0 0, .slice none 0 0, .int .i64 0, .int .i64 0] #[.slice none 0 0, .slice none 0 0, .slice none 0 0, .slice none 0 0, .string ⟨#[]⟩, .slice none 0 0, .slice none 0 0, .slice none 0 0, .slice none 0 0, .slice none 0 0, .int .i64 0, .int .i64 0])
    have HG10 := Lib.hid (box_old HG9.out #[.slice none 0 0, .slice none 0 0, .slice none 0 0, .slice none 0 0, .string ⟨#[]⟩, .slice none 0 0, .slice none 0 0, .slice none 0 0, .slice none 0 0, .slice none 0 0, .int .i64 0, .int .i64 0] #[.slice none 0 0, .slice none 0 0, .slice none 0 0, .slice none 0 0, .string ⟨#[]⟩, .slice none 0 0, .slice none 0 0, .slice none 0 0, .slice none 0 0, .slice none 0 0, .int .i64 0, .int .i64 0])
    have HH10 := Lib.hid (box_old hg2 #[.slice none 0 0, .slice none 0 0, .slice none 0 0, .slice none 0 0, .string ⟨#[]⟩, .slice none 0 0, .slice none 0 0, .slice none 0 0, .slice none 0 0, .slice none 0 0, .int .i64 0, .int .i64 0] #[.slice none 0 0, .slice none 0 0, .slice none 0 0, .slice none 0 0, .string ⟨#[]⟩, .slice none 0 0, .slice none 0 0, .slice none 0 0, .slice none 0 0, .slice none 0 0, .int .i64 0, .int .i64 0])
    have hI10 := shImg.keep (W' := (V9.alloc (.cells #[.slice none 0 0, .slice none 0 0, .slice none 0 0, .slice none 0 0, .string ⟨#[]⟩, .slice none 0 0, .slice none 0 0, .slice none 0 0, .slice none 0 0, .slice none 0 0, .int .i64 0, .int .i64 0] 29)).setRow V9.heap.size #[.slice none 0 0, .slice none 0 0, .slice none 0 0, .slice none 0 0, .string ⟨#[]⟩, .slice none 0 0, .slice none 0 0, .slice none 0 0, .slice none 0 0, .slice none 0 0, .int .i64 0, .int .i64 0]) (fun k hk => box_keep V9 #[.slice none 0 0, .slice none 0 0, .slice none 0 0, .slice none 0 0, .string ⟨#[]⟩, .slice none 0 0, .slice none 0 0, .slice none 0 0, .slice none 0 0, .slice none 0 0, .int .i64 0, .int .i64 0] #[.slice none 0 0, .slice none 0 0, .slice none 0 0, .slice none 0 0, .string ⟨#[]⟩, .slice none 0 0, .slice none 0 0, .slice none 0 0, .slice none 0 0, .slice none 0 0, .int .i64 0, .int .i64 0] k (by rw [HZ4.out] at hk; omega)) hI9
    have hIa := shImg.keep (W' := (V9.alloc (.cells #[.slice none 0 0, .slice none 0 0, .slice none 0 0, .slice none 0 0, .string ⟨#[]⟩, .slice none 0 0, .slice none 0 0, .slice none 0 0, .slice none 0 0, .slice none 0 0, .int .i64 0, .int .i64 0] 29)).setRow V9.heap.size #[.slice none 0 0, .slice none 0 0, .slice none 0 0, .slice none 0 0, .string ⟨#[]⟩, .slice none 0 0, .slice none 0 0, .slice none 0 0, .slice none 0 0, .slice none 0 0, .int .i64 0, .int .i64 0]) (fun k hk => HB10.out.block k hk) H.out
    have hs39 : V3.heap.size + 1 ≤ V9.heap.size := by omega
    have heq := eq_image V9.heap.size _ _ _ x (shImg.wide (fun k hk => by rw [HZ4.out] at hk; omega) hI10) (shImg.wide (fun k hk => Nat.lt_of_lt_of_le hk HB9.out.size) hIa) (by rw [box_size]; omega)
    clear hb9 hg2 hI9 hI10 hIa hno2
    have q0 : ((V9.alloc (.cells #[.slice none 0 0, .slice none 0 0, .slice none 0 0, .slice none 0 0, .string ⟨#[]⟩, .slice none 0 0, .slice none 0 0, .slice none 0 0, .slice none 0 0, .slice none 0 0, .int .i64 0, .int .i64 0] 29)).setRow V9.heap.size #[.slice none 0 0, .slice none 0 0, .slice none 0 0, .slice none 0 0, .string ⟨#[]⟩, .slice none 0 0, .slice none 0 0, .slice none 0 0, .slice none 0 0, .slice none 0 0, .int .i64 0, .int .i64 0]).cell? ⟨V3.heap.size, 0, none⟩ = some (.slice ra0 rl0 rc0) := by rw [Lib.cell_of_heap HR10.out]; rfl
    have q1 : ((V9.alloc (.cells #[.slice none 0 0, .slice none 0 0, .slice none 0 0, .slice none 0 0, .string ⟨#[]⟩, .slice none 0 0, .slice none 0 0, .slice none 0 0, .slice none 0 0, .slice none 0 0, .int .i64 0, .int .i64 0] 29)).setRow V9.heap.size #[.slice none 0 0, .slice none 0 0, .slice none 0 0, .slice none 0 0, .string ⟨#[]⟩, .slice none 0 0, .slice none 0 0, .slice none 0 0, .slice none 0 0, .slice none 0 0, .int .i64 0, .int .i64 0]).cell? ⟨V3.heap.size, 1, none⟩ = some (.slice ra1 rl1 rc1) := by rw [Lib.cell_of_heap HR10.out]; rfl
    have q2 : ((V9.alloc (.cells #[.slice none 0 0, .slice none 0 0, .slice none 0 0, .slice none 0 0, .string ⟨#[]⟩, .slice none 0 0, .slice none 0 0, .slice none 0 0, .slice none 0 0, .slice none 0 0, .int .i64 0, .int .i64 0] 29)).setRow V9.heap.size #[.slice none 0 0, .slice none 0 0, .slice none 0 0, .slice none 0 0, .string ⟨#[]⟩, .slice none 0 0, .slice none 0 0, .slice none 0 0, .slice none 0 0, .slice none 0 0, .int .i64 0, .int .i64 0]).cell? ⟨V3.heap.size, 2, none⟩ = some (.slice ra2 rl2 rc2) := by rw [Lib.cell_of_heap HR10.out]; rfl
    have q3 : ((V9.alloc (.cells #[.slice none 0 0, .slice none 0 0, .slice none 0 0, .slice none 0 0, .string ⟨#[]⟩, .slice none 0 0, .slice none 0 0, .slice none 0 0, .slice none 0 0, .slice none 0 0, .int .i64 0, .int .i64 0] 29)).setRow V9.heap.size #[.slice none 0 0, .slice none 0 0, .slice none 0 0, .slice none 0 0, .string ⟨#[]⟩, .slice none 0 0, .slice none 0 0, .slice none 0 0, .slice none 0 0, .slice none 0 0, .int .i64 0, .int .i64 0]).cell? ⟨V3.heap.size, 3, none⟩ = some (.slice ra3 rl3 rc3) := by rw [Lib.cell_of_heap HR10.out]; rfl
    have q4 : ((V9.alloc (.cells #[.slice none 0 0, .slice none 0 0, .slice none 0 0, .slice none 0 0, .string ⟨#[]⟩, .slice none 0 0, .slice none 0 0, .slice none 0 0, .slice none 0 0, .slice none 0 0, .int .i64 0, .int .i64 0] 29)).setRow V9.heap.size #[.slice none 0 0, .slice none 0 0, .slice none 0 0, .slice none 0 0, .string ⟨#[]⟩, .slice none 0 0, .slice none 0 0, .slice none 0 0, .slice none 0 0, .slice none 0 0, .int .i64 0, .int .i64 0]).cell? ⟨V3.heap.size, 4, none⟩ = some (.string x.globals) := by rw [Lib.cell_of_heap HR10.out]; rfl
    have q5 : ((V9.alloc (.cells #[.slice none 0 0, .slice none 0 0, .slice none 0 0, .slice none 0 0, .string ⟨#[]⟩, .slice none 0 0, .slice none 0 0, .slice none 0 0, .slice none 0 0, .slice none 0 0, .int .i64 0, .int .i64 0] 29)).setRow V9.heap.size #[.slice none 0 0, .slice none 0 0, .slice none 0 0, .slice none 0 0, .string ⟨#[]⟩, .slice none 0 0, .slice none 0 0, .slice none 0 0, .slice none 0 0, .slice none 0 0, .int .i64 0, .int .i64 0]).cell? ⟨V3.heap.size, 5, none⟩ = some (.slice ra5 rl5 rc5) := by rw [Lib.cell_of_heap HR10.out]; rfl
    have q6 : ((V9.alloc (.cells #[.slice none 0 0, .slice none 0 0, .slice none 0 0, .slice none 0 0, .string ⟨#[]⟩, .slice none 0 0, .slice none 0 0, .slice none 0 0, .slice none 0 0, .slice none 0 0, .int .i64 0, .int .i64 0] 29)).setRow V9.heap.size #[.slice none 0 0, .slice none 0 0, .slice none 0 0, .slice none 0 0, .string ⟨#[]⟩, .slice none 0 0, .slice none 0 0, .slice none 0 0, .slice none 0 0, .slice none 0 0, .int .i64 0, .int .i64 0]).cell? ⟨V3.heap.size, 6, none⟩ = some (.slice ra6 rl6 rc6) := by rw [Lib.cell_of_heap HR10.out]; rfl
    have q7 : ((V9.alloc (.cells #[.slice none 0 0, .slice none 0 0, .slice none 0 0, .slice none 0 0, .string ⟨#[]⟩, .slice none 0 0, .slice none 0 0, .slice none 0 0, .slice none 0 0, .slice none 0 0, .int .i64 0, .int .i64 0] 29)).setRow V9.heap.size #[.slice none 0 0, .slice none 0 0, .slice none 0 0, .slice none 0 0, .string ⟨#[]⟩, .slice none 0 0, .slice none 0 0, .slice none 0 0, .slice none 0 0, .slice none 0 0, .int .i64 0, .int .i64 0]).cell? ⟨V3.heap.size, 7, none⟩ = some (.slice ra7 rl7 rc7) := by rw [Lib.cell_of_heap HR10.out]; rfl
    have q8 : ((V9.alloc (.cells #[.slice none 0 0, .slice none 0 0, .slice none 0 0, .slice none 0 0, .string ⟨#[]⟩, .slice none 0 0, .slice none 0 0, .slice none 0 0, .slice none 0 0, .slice none 0 0, .int .i64 0, .int .i64 0] 29)).setRow V9.heap.size #[.slice none 0 0, .slice none 0 0, .slice none 0 0, .slice none 0 0, .string ⟨#[]⟩, .slice none 0 0, .slice none 0 0, .slice none 0 0, .slice none 0 0, .slice none 0 0, .int .i64 0, .int .i64 0]).cell? ⟨V3.heap.size, 8, none⟩ = some (.slice ra8 rl8 rc8) := by rw [Lib.cell_of_heap HR10.out]; rfl
    have q9 : ((V9.alloc (.cells #[.slice none 0 0, .slice none 0 0, .slice none 0 0, .slice none 0 0, .string ⟨#[]⟩, .slice none 0 0, .slice none 0 0, .slice none 0 0, .slice none 0 0, .slice none 0 0, .int .i64 0, .int .i64 0] 29)).setRow V9.heap.size #[.slice none 0 0, .slice none 0 0, .slice none 0 0, .slice none 0 0, .string ⟨#[]⟩, .slice none 0 0, .slice none 0 0, .slice none 0 0, .slice none 0 0, .slice none 0 0, .int .i64 0, .int .i64 0]).cell? ⟨V3.heap.size, 9, none⟩ = some (.slice ra9 rl9 rc9) := by rw [Lib.cell_of_heap HR10.out]; rfl
    have q10 : ((V9.alloc (.cells #[.slice none 0 0, .slice none 0 0, .slice none 0 0, .slice none 0 0, .string ⟨#[]⟩, .slice none 0 0, .slice none 0 0, .slice none 0 0, .slice none 0 0, .slice none 0 0, .int .i64 0, .int .i64 0] 29)).setRow V9.heap.size #[.slice none 0 0, .slice none 0 0, .slice none 0 0, .slice none 0 0, .string ⟨#[]⟩, .slice none 0 0, .slice none 0 0, .slice none 0 0, .slice none 0 0, .slice none 0 0, .int .i64 0, .int .i64 0]).cell? ⟨V3.heap.size, 10, none⟩ = some (.int .i64 x.d) := by rw [Lib.cell_of_heap HR10.out]; rfl
    have q11 : ((V9.alloc (.cells #[.slice none 0 0, .slice none 0 0, .slice none 0 0, .slice none 0 0, .string ⟨#[]⟩, .slice none 0 0, .slice none 0 0, .slice none 0 0, .slice none 0 0, .slice none 0 0, .int .i64 0, .int .i64 0] 29)).setRow V9.heap.size #[.slice none 0 0, .slice none 0 0, .slice none 0 0, .slice none 0 0, .string ⟨#[]⟩, .slice none 0 0, .slice none 0 0, .slice none 0 0, .slice none 0 0, .slice none 0 0, .int .i64 0, .int .i64 0]).cell? ⟨V3.heap.size, 11, none⟩ = some (.int .i64 x.w) := by rw [Lib.cell_of_heap HR10.out]; rfl
    have p0 : ((V9.alloc (.cells #[.slice none 0 0, .slice none 0 0, .slice none 0 0, .slice none 0 0, .string ⟨#[]⟩, .slice none 0 0, .slice none 0 0, .slice none 0 0, .slice none 0 0, .slice none 0 0, .int .i64 0, .int .i64 0] 29)).setRow V9.heap.size #[.slice none 0 0, .slice none 0 0, .slice none 0 0, .slice none 0 0, .string ⟨#[]⟩, .slice none 0 0, .slice none 0 0, .slice none 0 0, .slice none 0 0, .slice none 0 0, .int .i64 0, .int .i64 0]).cell? ⟨W.heap.size, 0, none⟩ = some (.slice a0 l0 c0) := by rw [Lib.cell_of_heap HX10.out]; rfl
    have p1 : ((V9.alloc (.cells #[.slice none 0 0, .slice none 0 0, .slice none 0 0, .slice none 0 0, .string ⟨#[]⟩, .slice none 0 0, .slice none 0 0, .slice none 0 0, .slice none 0 0, .slice none 0 0, .int .i64 0, .int .i64 0] 29)).setRow V9.heap.size #[.slice none 0 0, .slice none 0 0, .slice none 0 0, .slice none 0 0, .string ⟨#[]⟩, .slice none 0 0, .slice none 0 0, .slice none 0 0, .slice none 0 0, .slice none 0 0, .int .i64 0, .int .i64 0]).cell? ⟨W.heap.size, 1, none⟩ = some (.slice a1 l1 c1) := by rw [Lib.cell_of_heap HX10.out]; rfl
    have p2 : ((V9.alloc (.cells #[.slice none 0 0, .slice none 0 0, .slice none 0 0, .slice none 0 0, .string ⟨#[]⟩, .slice none 0 0, .slice none 0 0, .slice none 0 0, .slice none 0 0, .slice none 0 0, .int .i64 0, .int .i64 0] 29)).setRow V9.heap.size #[.slice none 0 0, .slice none 0 0, .slice none 0 0, .slice none 0 0, .string ⟨#[]⟩, .slice none 0 0, .slice none 0 0, .slice none 0 0, .slice none 0 0, .slice none 0 0, .int .i64 0, .int .i64 0]).cell? ⟨W.heap.size, 2, none⟩ = some (.slice a2 l2 c2) := by rw [Lib.cell_of_heap HX10.out]; rfl
    have p3 : ((V9.alloc (.cells #[.slice none 0 0, .slice none 0 0, .slice none 0 0, .slice none 0 0, .string ⟨#[]⟩, .slice none 0 0, .slice none 0 0, .slice none 0 0, .slice none 0 0, .slice none 0 0, .int .i64 0, .int .i64 0] 29)).setRow V9.heap.size #[.slice none 0 0, .slice none 0 0, .slice none 0 0, .slice none 0 0, .string ⟨#[]⟩, .slice none 0 0, .slice none 0 0, .slice none 0 0, .slice none 0 0, .slice none 0 0, .int .i64 0, .int .i64 0]).cell? ⟨W.heap.size, 3, none⟩ = some (.slice a3 l3 c3) := by rw [Lib.cell_of_heap HX10.out]; rfl
    have p4 : ((V9.alloc (.cells #[.slice none 0 0, .slice none 0 0, .slice none 0 0, .slice none 0 0, .string ⟨#[]⟩, .slice none 0 0, .slice none 0 0, .slice none 0 0, .slice none 0 0, .slice none 0 0, .int .i64 0, .int .i64 0] 29)).setRow V9.heap.size #[.slice none 0 0, .slice none 0 0, .slice none 0 0, .slice none 0 0, .string ⟨#[]⟩, .slice none 0 0, .slice none 0 0, .slice none 0 0, .slice none 0 0, .slice none 0 0, .int .i64 0, .int .i64 0]).cell? ⟨W.heap.size, 4, none⟩ = some (.string x.globals) := by rw [Lib.cell_of_heap HX10.out]; rfl
    have p5 : ((V9.alloc (.cells #[.slice none 0 0, .slice none 0 0, .slice none 0 0, .slice none 0 0, .string ⟨#[]⟩, .slice none 0 0, .slice none 0 0, .slice none 0 0, .slice none 0 0, .slice none 0 0, .int .i64 0, .int .i64 0] 29)).setRow V9.heap.size #[.slice none 0 0, .slice none 0 0, .slice none 0 0, .slice none 0 0, .string ⟨#[]⟩, .slice none 0 0, .slice none 0 0, .slice none 0 0, .slice none 0 0, .slice none 0 0, .int .i64 0, .int .i64 0]).cell? ⟨W.heap.size, 5, none⟩ = some (.slice a5 l5 c5) := by rw [Lib.cell_of_heap HX10.out]; rfl
    have p6 : ((V9.alloc (.cells #[.slice none 0 0, .slice none 0 0, .slice none 0 0, .slice none 0 0, .string ⟨#[]⟩, .slice none 0 0, .slice none 0 0, .slice none 0 0, .slice none 0 0, .slice none 0 0, .int .i64 0, .int .i64 0] 29)).setRow V9.heap.size #[.slice none 0 0, .slice none 0 0, .slice none 0 0, .slice none 0 0, .string ⟨#[]⟩, .slice none 0 0, .slice none 0 0, .slice none 0 0, .slice none 0 0, .slice none 0 0, .int .i64 0, .int .i64 0]).cell? ⟨W.heap.size, 6, none⟩ = some (.slice a6 l6 c6) := by rw [Lib.cell_of_heap HX10.out]; rfl
    have p7 : ((V9.alloc (.cells #[.slice none 0 0, .slice none 0 0, .slice none 0 0, .slice none 0 0, .string ⟨#[]⟩, .slice none 0 0, .slice none 0 0, .slice none 0 0, .slice none 0 0, .slice none 0 0, .int .i64 0, .int .i64 0] 29)).setRow V9.heap.size #[.slice none 0 0, .slice none 0 0, .slice none 0 0, .slice none 0 0, .string ⟨#[]⟩, .slice none 0 0, .slice none 0 0, .slice none 0 0, .slice none 0 0, .slice none 0 0, .int .i64 0, .int .i64 0]).cell? ⟨W.heap.size, 7, none⟩ = some (.slice a7 l7 c7) := by rw [Lib.cell_of_heap HX10.out]; rfl
    have p8 : ((V9.alloc (.cells #[.slice none 0 0, .slice none 0 0, .slice none 0 0, .slice none 0 0, .string ⟨#[]⟩, .slice none 0 0, .slice none 0 0, .slice none 0 0, .slice none 0 0, .slice none 0 0, .int .i64 0, .int .i64 0] 29)).setRow V9.heap.size #[.slice none 0 0, .slice none 0 0, .slice none 0 0, .slice none 0 0, .string ⟨#[]⟩, .slice none 0 0, .slice none 0 0, .slice none 0 0, .slice none 0 0, .slice none 0 0, .int .i64 0, .int .i64 0]).cell? ⟨W.heap.size, 8, none⟩ = some (.slice a8 l8 c8) := by rw [Lib.cell_of_heap HX10.out]; rfl
    have p9 : ((V9.alloc (.cells #[.slice none 0 0, .slice none 0 0, .slice none 0 0, .slice none 0 0, .string ⟨#[]⟩, .slice none 0 0, .slice none 0 0, .slice none 0 0, .slice none 0 0, .slice none 0 0, .int .i64 0, .int .i64 0] 29)).setRow V9.heap.size #[.slice none 0 0, .slice none 0 0, .slice none 0 0, .slice none 0 0, .string ⟨#[]⟩, .slice none 0 0, .slice none 0 0, .slice none 0 0, .slice none 0 0, .slice none 0 0, .int .i64 0, .int .i64 0]).cell? ⟨W.heap.size, 9, none⟩ = some (.slice a9 l9 c9) := by rw [Lib.cell_of_heap HX10.out]; rfl
    have p10 : ((V9.alloc (.cells #[.slice none 0 0, .slice none 0 0, .slice none 0 0, .slice none 0 0, .string ⟨#[]⟩, .slice none 0 0, .slice none 0 0, .slice none 0 0, .slice none 0 0, .slice none 0 0, .int .i64 0, .int .i64 0] 29)).setRow V9.heap.size #[.slice none 0 0, .slice none 0 0, .slice none 0 0, .slice none 0 0, .string ⟨#[]⟩, .slice none 0 0, .slice none 0 0, .slice none 0 0, .slice none 0 0, .slice none 0 0, .int .i64 0, .int .i64 0]).cell? ⟨W.heap.size, 10, none⟩ = some (.int .i64 x.d) := by rw [Lib.cell_of_heap HX10.out]; rfl
    have p11 : ((V9.alloc (.cells #[.slice none 0 0, .slice none 0 0, .slice none 0 0, .slice none 0 0, .string ⟨#[]⟩, .slice none 0 0, .slice none 0 0, .slice none 0 0, .slice none 0 0, .slice none 0 0, .int .i64 0, .int .i64 0] 29)).setRow V9.heap.size #[.slice none 0 0, .slice none 0 0, .slice none 0 0, .slice none 0 0, .string ⟨#[]⟩, .slice none 0 0, .slice none 0 0, .slice none 0 0, .slice none 0 0, .slice none 0 0, .int .i64 0, .int .i64 0]).cell? ⟨W.heap.size, 11, none⟩ = some (.int .i64 x.w) := by rw [Lib.cell_of_heap HX10.out]; rfl
    go_wp2_with (first | (refine wpList_store_row rfl 29 (.tmp 13) (.tmp 64) rfl V9.heap.size #[.slice none 0 0, .slice none 0 0, .slice none 0 0, .slice none 0 0, .string ⟨#[]⟩, .slice none 0 0, .slice none 0 0, .slice none 0 0, .slice none 0 0, .slice none 0 0, .int .i64 0, .int .i64 0] rfl rfl 29 #[.slice none 0 0, .slice none 0 0, .slice none 0 0, .slice none 0 0, .string ⟨#[]⟩, .slice none 0 0, .slice none 0 0, .slice none 0 0, .slice none 0 0, .slice none 0 0, .int .i64 0, .int .i64 0] HK9.out size29 rfl zero_one ?_) | (go_at_call 14; refine heq.mono ?_))
    rintro e V11 ⟨rfl, hb11⟩
    have HB11 := Lib.hid (HB10.out.trans (hb11.mono HB10.out.size))
    have HG11 := Lib.hid ((hb11.block _ (heap_lt HG10.out)).trans HG10.out)
    have HH11 := Lib.hid ((hb11.block _ (heap_lt HH10.out)).trans HH10.out)
    clear heq hb11
    clear q0 q1 q2 q3 q4 q5 q6 q7 q8 q9 q10 q11
    clear p0 p1 p2 p3 p4 p5 p6 p7 p8 p9 p10 p11
    have hcd1 := code_err 19 g1 V11 (HE.out.keep HB11.out hs0) HG11.out
    go_wp2_with (go_at_call 12; refine hcd1.mono ?_)
    rintro e V12 ⟨rfl, hb12⟩
    have HB12 := Lib.hid (HB11.out.trans (hb12.mono HB11.out.size))
    have HH12 := Lib.hid ((hb12.block _ (heap_lt HH11.out)).trans HH11.out)
    clear hcd1 hb12
    have hcd2 := code_err 19 g2 V12 (HE.out.keep HB12.out hs0) HH12.out
    go_wp2_with (go_at_call 12; refine hcd2.mono ?_)
    rintro e V13 ⟨rfl, hb13⟩
    have HB13 := Lib.hid (HB12.out.trans (hb13.mono HB12.out.size))
    clear hcd2 hb13
    have hrd := read_any V13 Bb ab nb cb ((HBB.out.keep (fun k hk => HB13.out.block k hk)).lim HB13.out.size) (by omega)
    go_wp2_with (first | (go_at_call 17; refine hrd.mono ?_))
    rintro e V20 ⟨ha, hb20⟩
    have HB20 := Lib.hid (HB13.out.trans (hb20.mono HB13.out.size))
    clear hrd hb20
    rcases ha with ⟨hok, vs2, rfl, hI2⟩ | ⟨_, gf, rfl, hgf⟩
    · have hrl := read_lay hok
      obtain ⟨y, hyy⟩ : ∃ y, (readSt Bb).1 = y := ⟨_, rfl⟩
      rw [hyy] at hI2 hrl
      have hI3 := shImg.wide (S' := fun k => k < V20.heap.size) (fun k hk => hk.2) hI2
      clear hI2 hok hyy
      obtain ⟨sa0, sl0, sc0, sa1, sl1, sc1, sa2, sl2, sc2, sa3, sl3, sc3, sa5, sl5, sc5, sa6, sl6, sc6, sa7, sl7, sc7, sa8, sl8, sc8, sa9, sl9, sc9, rfl, -⟩ := img_is.1 hI3
      have HK20 := Lib.hid (heap_alloc_new V20 (.cells #[.slice none 0 0, .slice none 0 0, .slice none 0 0, .slice none 0 0, .string ⟨#[]⟩, .slice none 0 0, .slice none 0 0, .slice none 0 0, .slice none 0 0, .slice none 0 0, .int .i64 0, .int .i64 0] 29))
      have HB21 := Lib.hid (below_box HB20.out HB20.out.size #[.slice none 0 0, .slice none 0 0, .slice none 0 0, .slice none 0 0, .string ⟨#[]⟩, .slice none 0 0, .slice none 0 0, .slice none 0 0, .slice none 0 0, .slice none 0 0, .int .i64 0, .int .i64 0] #[.slice sa0 sl0 sc0, .slice sa1 sl1 sc1, .slice sa2 sl2 sc2, .slice sa3 sl3 sc3, .string y.globals, .slice sa5 sl5 sc5, .slice sa6 sl6 sc6, .slice sa7 sl7 sc7, .slice sa8 sl8 sc8, .slice sa9 sl9 sc9, .int .i64 y.d, .int .i64 y.w])
      have HS21 := Lib.hid (box_new V20 #[.slice none 0 0, .slice none 0 0, .slice none 0 0, .slice none 0 0, .string ⟨#[]⟩, .slice none 0 0, .slice none 0 0, .slice none 0 0, .slice none 0 0, .slice none 0 0, .int .i64 0, .int .i64 0] #[.slice sa0 sl0 sc0, .slice sa1 sl1 sc1, .slice sa2 sl2 sc2, .slice sa3 sl3 sc3, .string y.globals, .slice sa5 sl5 sc5, .slice sa6 sl6 sc6, .slice sa7 sl7 sc7, .slice sa8 sl8 sc8, .slice sa9 sl9 sc9, .int .i64 y.d, .int .i64 y.w])
      have hz21 := box_size V20 #[.slice none 0 0, .slice none 0 0, .slice none 0 0, .slice none 0 0, .string ⟨#[]⟩, .slice none 0 0, .slice none 0 0, .slice none 0 0, .slice none 0 0, .slice none 0 0, .int .i64 0, .int .i64 0] #[.slice sa0 sl0 sc0, .slice sa1 sl1 sc1, .slice sa2 sl2 sc2, .slice sa3 sl3 sc3, .string y.globals, .slice sa5 sl5 sc5, .slice sa6 sl6 sc6, .slice sa7 sl7 sc7, .slice sa8 sl8 sc8, .slice sa9 sl9 sc9, .int .i64 y.d, .int .i64 y.w]
      have hI21 := shImg.wide (S' := fun k => k < ((V20.alloc (.cells #[.slice none 0 0, .slice none 0 0, .slice none 0 0, .slice none 0 0, .string ⟨#[]⟩, .slice none 0 0, .slice none 0 0, .slice none 0 0, .slice none 0 0, .slice none 0 0, .int .i64 0, .int .i64 0] 29)).setRow V20.heap.size #[.slice sa0 sl0 sc0, .slice sa1 sl1 sc1, .slice sa2 sl2 sc2, .slice sa3 sl3 sc3, .string y.globals, .slice sa5 sl5 sc5, .slice sa6 sl6 sc6, .slice sa7 sl7 sc7, .slice sa8 sl8 sc8, .slice sa9 sl9 sc9, .int .i64 y.d, .int .i64 y.w]).heap.size) (fun k hk => by rw [hz21]; omega) (shImg.keep (fun k hk => box_keep V20 #[.slice none 0 0, .slice none 0 0, .slice none 0 0, .slice none 0 0, .string ⟨#[]⟩, .slice none 0 0, .slice none 0 0, .slice none 0 0, .slice none 0 0, .slice none 0 0, .int .i64 0, .int .i64 0] #[.slice sa0 sl0 sc0, .slice sa1 sl1 sc1, .slice sa2 sl2 sc2, .slice sa3 sl3 sc3, .string y.globals, .slice sa5 sl5 sc5, .slice sa6 sl6 sc6, .slice sa7 sl7 sc7, .slice sa8 sl8 sc8, .slice sa9 sl9 sc9, .int .i64 y.d, .int .i64 y.w] k hk) hI3)
      have hly2 := lay_any _ _ y hI21
      have hone2 : (#[.slice sa0 sl0 sc0, .slice sa1 sl1 sc1, .slice sa2 sl2 sc2, .slice sa3 sl3 sc3, .string y.globals, .slice sa5 sl5 sc5, .slice sa6 sl6 sc6, .slice sa7 sl7 sc7, .slice sa8 sl8 sc8, .slice sa9 sl9 sc9, .int .i64 y.d, .int .i64 y.w] : Array Value).all (·.oneCell') = true := by simp [Value.oneCell']
      clear hI3 hI21 hz21
      go_wp2_with (first | (refine wpList_store_row rfl 29 (.tmp 15) (.tmp 95) rfl V20.heap.size #[.slice sa0 sl0 sc0, .slice sa1 sl1 sc1, .slice sa2 sl2 sc2, .slice sa3 sl3 sc3, .string y.globals, .slice sa5 sl5 sc5, .slice sa6 sl6 sc6, .slice sa7 sl7 sc7, .slice sa8 sl8 sc8, .slice sa9 sl9 sc9, .int .i64 y.d, .int .i64 y.w] rfl rfl 29 #[.slice none 0 0, .slice none 0 0, .slice none 0 0, .slice none 0 0, .string ⟨#[]⟩, .slice none 0 0, .slice none 0 0, .slice none 0 0, .slice none 0 0, .slice none 0 0, .int .i64 0, .int .i64 0] HK20.out size29 rfl hone2 ?_) | (refine wpList_load_row rfl 29 (.tmp 15) rfl V20.heap.size rfl 29 #[.slice sa0 sl0 sc0, .slice sa1 sl1 sc1, .slice sa2 sl2 sc2, .slice sa3 sl3 sc3, .string y.globals, .slice sa5 sl5 sc5, .slice sa6 sl6 sc6, .slice sa7 sl7 sc7, .slice sa8 sl8 sc8, .slice sa9 sl9 sc9, .int .i64 y.d, .int .i64 y.w] (0, 0) _ HS21.out Tryz.underlying29 rfl size29 ?_) | (go_at_call 9; refine hly2.mono ?_))
      rintro e V22 ⟨hla, hb22⟩
      have HB22 := Lib.hid (HB21.out.trans (hb22.mono HB21.out.size))
      clear hly2 hb22 hone2
      rcases hla with ⟨hful, _⟩ | ⟨_, gg2, cap22, rfl, hown2⟩
      · rw [hrl] at hful; cases hful
      rw [hrl] at hown2 ⊢
      simp only [hnb] at hown2 ⊢
      have heq := eq_bytes _ _ V22 _ _ _ _ _ _ Bb (bytes_of_own hown2) (HBB.out.keep (fun k hk => HB22.out.block k hk))
      clear hown2 hrl
      go_wp2_with (go_at_call 11; refine heq.mono ?_)
      rintro e V23 ⟨rfl, m, hV23⟩
      have HB23 := Lib.hid (show Below W.heap.size W V23 by rw [hV23]; exact below_drew HB22.out m)
      clear heq hV23
      go_wp2_with (go_at_call 8; refine (awake_any V23 (HE.out.keep HB23.out hs0)).mono ?_)
      rintro e V24 ⟨rfl, hbz⟩
      have HBZ := Lib.hid (HB23.out.trans (hbz.mono HB23.out.size))
      clear hbz
      go_wp2_with fail
      go_returns
      exact ⟨rfl, HBZ.out⟩
    · have HK20 := Lib.hid (heap_alloc_new V20 (.cells #[.slice none 0 0, .slice none 0 0, .slice none 0 0, .slice none 0 0, .string ⟨#[]⟩, .slice none 0 0, .slice none 0 0, .slice none 0 0, .slice none 0 0, .slice none 0 0, .int .i64 0, .int .i64 0] 29))
      have HB21 := Lib.hid (below_box HB20.out HB20.out.size #[.slice none 0 0, .slice none 0 0, .slice none 0 0, .slice none 0 0, .string ⟨#[]⟩, .slice none 0 0, .slice none 0 0, .slice none 0 0, .slice none 0 0, .slice none 0 0, .int .i64 0, .int .i64 0] #[.slice none 0 0, .slice none 0 0, .slice none 0 0, .slice none 0 0, .string ⟨#[]⟩, .slice none 0 0, .slice none 0 0, .slice none 0 0, .slice none 0 0, .slice none 0 0, .int .i64 0, .int .i64 0])
      have HS21 := Lib.hid (box_new V20 #[.slice none 0 0, .slice none 0 0, .slice none 0 0, .slice none 0 0, .string ⟨#[]⟩, .slice none 0 0, .slice none 0 0, .slice none 0 0, .slice none 0 0, .slice none 0 0, .int .i64 0, .int .i64 0] #[.slice none 0 0, .slice none 0 0, .slice none 0 0, .slice none 0 0, .string ⟨#[]⟩, .slice none 0 0, .slice none 0 0, .slice none 0 0, .slice none 0 0, .slice none 0 0, .int .i64 0, .int .i64 0])
      have hgf2 := box_old hgf #[.slice none 0 0, .slice none 0 0, .slice none 0 0, .slice none 0 0, .string ⟨#[]⟩, .slice none 0 0, .slice none 0 0, .slice none 0 0, .slice none 0 0, .slice none 0 0, .int .i64 0, .int .i64 0] #[.slice none 0 0, .slice none 0 0, .slice none 0 0, .slice none 0 0, .string ⟨#[]⟩, .slice none 0 0, .slice none 0 0, .slice none 0 0, .slice none 0 0, .slice none 0 0, .int .i64 0, .int .i64 0]
      have hcd := code_err 19 gf _ (HE.out.keep HB21.out hs0) hgf2
      clear hgf hgf2
      go_wp2_with (first | (refine wpList_store_row rfl 29 (.tmp 15) (.tmp 95) rfl V20.heap.size #[.slice none 0 0, .slice none 0 0, .slice none 0 0, .slice none 0 0, .string ⟨#[]⟩, .slice none 0 0, .slice none 0 0, .slice none 0 0, .slice none 0 0, .slice none 0 0, .int .i64 0, .int .i64 0] rfl rfl 29 #[.slice none 0 0, .slice none 0 0, .slice none 0 0, .slice none 0 0, .string ⟨#[]⟩, .slice none 0 0, .slice none 0 0, .slice none 0 0, .slice none 0 0, .slice none 0 0, .int .i64 0, .int .i64 0] HK20.out size29 rfl zero_one ?_) | (go_at_call 12; refine hcd.mono ?_))
      rintro e V22 ⟨rfl, hb22⟩
      have HB22 := Lib.hid (HB21.out.trans (hb22.mono HB21.out.size))
      have HS22 := Lib.hid ((hb22.block _ (heap_lt HS21.out)).trans HS21.out)
      have heq := eq_image 0 V22 _ _ imgZ (isZ _ _) (isZ _ _) (Nat.zero_le _)
      clear hcd hb22
      have q0 : V22.cell? ⟨V20.heap.size, 0, none⟩ = some (.slice none 0 0) := by rw [Lib.cell_of_heap HS22.out]; rfl
      have q1 : V22.cell? ⟨V20.heap.size, 1, none⟩ = some (.slice none 0 0) := by rw [Lib.cell_of_heap HS22.out]; rfl
      have q2 : V22.cell? ⟨V20.heap.size, 2, none⟩ = some (.slice none 0 0) := by rw [Lib.cell_of_heap HS22.out]; rfl
      have q3 : V22.cell? ⟨V20.heap.size, 3, none⟩ = some (.slice none 0 0) := by rw [Lib.cell_of_heap HS22.out]; rfl
      have q4 : V22.cell? ⟨V20.heap.size, 4, none⟩ = some (.string ⟨#[]⟩) := by rw [Lib.cell_of_heap HS22.out]; rfl
      have q5 : V22.cell? ⟨V20.heap.size, 5, none⟩ = some (.slice none 0 0) := by rw [Lib.cell_of_heap HS22.out]; rfl
      have q6 : V22.cell? ⟨V20.heap.size, 6, none⟩ = some (.slice none 0 0) := by rw [Lib.cell_of_heap HS22.out]; rfl
      have q7 : V22.cell? ⟨V20.heap.size, 7, none⟩ = some (.slice none 0 0) := by rw [Lib.cell_of_heap HS22.out]; rfl
      have q8 : V22.cell? ⟨V20.heap.size, 8, none⟩ = some (.slice none 0 0) := by rw [Lib.cell_of_heap HS22.out]; rfl
      have q9 : V22.cell? ⟨V20.heap.size, 9, none⟩ = some (.slice none 0 0) := by rw [Lib.cell_of_heap HS22.out]; rfl
      have q10 : V22.cell? ⟨V20.heap.size, 10, none⟩ = some (.int .i64 0) := by rw [Lib.cell_of_heap HS22.out]; rfl
      have q11 : V22.cell? ⟨V20.heap.size, 11, none⟩ = some (.int .i64 0) := by rw [Lib.cell_of_heap HS22.out]; rfl
      go_wp2_with (go_at_call 14; refine heq.mono ?_)
      rintro e V23 ⟨rfl, hb23⟩
      have HB23 := Lib.hid (HB22.out.trans (hb23.mono HB22.out.size))
      clear heq hb23
      clear q0 q1 q2 q3 q4 q5 q6 q7 q8 q9 q10 q11
      go_wp2_with (go_at_call 8; refine (awake_any V23 (HE.out.keep HB23.out hs0)).mono ?_)
      rintro e V24 ⟨rfl, hbz⟩
      have HBZ := Lib.hid (HB23.out.trans (hbz.mono HB23.out.size))
      clear hbz
      go_wp2_with fail
      go_returns
      exact ⟨rfl, HBZ.out⟩
end Go.Proofs.YtoaohoeghlidaaaGreatDoor
