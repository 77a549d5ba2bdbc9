/- TabsPlays, the law. -/
import Derived.Test.YtmfbknmcmopjnaaTbSaid
import Derived.Test.YtmfbknmcmopjnaaTbOpB
import Derived.Test.YtmfbknmcmopjnaaTbWorks
import Derived.Test.YtmfbknmcmopjnaaTbWalks
set_option linter.unusedVariables false
namespace Go.Proofs.Ytmfbknmcmopjnaa.Lab
open Go Go.RowKit Go.Shelf

/-- Both ways' tab stops, the program's in block b, the reference's in the next. -/
def PSt (w wr : World) (b : Nat) (t : Tb) : Prop := Below w.heap.size w wr ∧ TbAt wr b t ∧ ∃ a c, wr.heap[b + 1]? = some (.cells #[.slice a t.L.length c, .int .u8 (t.l : Nat), .int .u8 (t.b : Nat)] RT (0, 0)) ∧ BIn wr (.slice a t.L.length c) t.L
theorem putT_bt (w : World) (b : Nat) (t : Tb) : But b w (putT w b t) :=
  (((((((((((But.set w b 0 _).trans (But.set _ b 1 _)).trans (But.set _ b 2 _)).trans (But.set _ b 3 _)).trans (But.set _ b 4 _)).trans (But.set _ b 5 _)).trans (But.set _ b 6 _)).trans (But.set _ b 7 _)).trans (But.set _ b 8 _)).trans (But.set _ b 9 _))).trans (But.set _ b 10 _)
theorem no_bool (t : Tb) (x : Bool) : ∀ i : Nat, (tbC t)[i]? ≠ some (Value.bool x)
  | 0 | 1 | 2 | 3 | 4 | 5 | 6 | 7 | 8 | 9 | 10 => by simp
  | i + 11 => by simp
theorem BIn.butT {w w' : World} {r : Nat} {v : Value} {L : List Bool} {t : Tb} (h : BIn w v L) (hr : TbAt w r t) (k : But r w w') : BIn w' v L := by
  obtain ⟨a, c, e, hh, hz⟩ := h
  refine ⟨a, c, e, fun h0 => ?_, hz⟩
  obtain ⟨g, o, ea, hg, hC⟩ := hh h0
  have hne : g ≠ r := by
    rintro rfl
    have := hC 0 h0
    rw [cell_of_row w g (o + 0) _ _ _ hr] at this
    exact no_bool t _ _ this
  refine ⟨g, o, ea, Nat.lt_of_lt_of_le hg k.size, fun i hi => ?_⟩
  exact (World.cell?_of_block (a := ⟨g, o + i, none⟩) (k.block g hg (fun e => hne (by injection e)))).trans (hC i hi)
theorem idx4 (a b c d : Int) (w : World) : (Instr.index 45 (.agg #[.int .i64 a, .int .i64 b, .int .i64 c, .int .i64 d]) (.int .i64 0)).run Try.prog w = .ok (.int .i64 a) w ∧ (Instr.index 45 (.agg #[.int .i64 a, .int .i64 b, .int .i64 c, .int .i64 d]) (.int .i64 1)).run Try.prog w = .ok (.int .i64 b) w ∧
    (Instr.index 45 (.agg #[.int .i64 a, .int .i64 b, .int .i64 c, .int .i64 d]) (.int .i64 2)).run Try.prog w = .ok (.int .i64 c) w ∧ (Instr.index 45 (.agg #[.int .i64 a, .int .i64 b, .int .i64 c, .int .i64 d]) (.int .i64 3)).run Try.prog w = .ok (.int .i64 d) w := by
  refine ⟨?_, ?_, ?_, ?_⟩ <;> simp [Instr.index, run_underlying Try.underlying45, asIntOf, part, go_sem]
def CM (c m : Int) : Prop := -32768 ≤ c ∧ c ≤ 32767 ∧ -1 ≤ m ∧ m ≤ 9223372036854775807
set_option maxHeartbeats 8000000 in
set_option maxRecDepth 100000 in
theorem plays_core (n : Int) (hn1 : -32768 ≤ n) (hn2 : n ≤ 32767) (hi : Bool) (la : Option Addr) (ln lc : Nat) (AL : List Ac) (w : World) (h : AcsIn w (.slice la ln lc) AL) : Calls Try.prog 3 #[.int .i16 n, .bool hi, .slice la ln lc] w fun e w' => e = .returned (.bool true) ∧ Below w.heap.size w w' := by
  have HAC := Lib.hid h
  have HLN := Lib.hid (show AL.length = ln by obtain ⟨a, c, e⟩ := h.shape; injection e with _ e _; exact e.symm)
  clear h
  have r3 : IntKind.i64.wrap n = n := by rw [IntKind.wrap_i64]; omega
  obtain ⟨T0, hT0⟩ : ∃ T0, T0 = newM n (lvN hi) := ⟨_, rfl⟩
  have HNEW := Lib.hid (fun w => new_any n (lvN hi) w)
  have HRN := Lib.hid (fun w => rnew_any n (lvN hi) w)
  have HOK0 := Lib.hid (show T0.Ok by rw [hT0]; exact newM_ok _ (lvN_le _))
  have HNN := Lib.hid (And.intro hn1 hn2)
  rw [← hT0] at HNEW HRN
  clear hT0 hn1 hn2
  go_enter Try.func3, Try.ntmps3
  go_wp2_with fail
  refine (level_any hi _).mono ?_
  rintro e w1 ⟨rfl, b1⟩
  go_wp2_with fail
  refine (HNEW.out _).mono ?_
  rintro e w2 ⟨rfl, b2⟩
  go_wp2_with fail
  refine (level_any hi _).mono ?_
  rintro e w3 ⟨rfl, b3⟩
  go_wp2_with fail
  refine (HRN.out _).mono ?_
  rintro e w4 ⟨v4, rfl, hI4, b4⟩
  obtain ⟨va, vc, rfl⟩ := hI4.shape
  have HB4 := Lib.hid (((b1.trans (b2.mono b1.size)).trans (b3.mono (Nat.le_trans b1.size b2.size))).trans (b4.mono (Nat.le_trans (Nat.le_trans b1.size b2.size) b3.size)))
  have HI4 := Lib.hid hI4
  clear b1 b2 b3 b4 hI4 HNEW HRN
  obtain ⟨bT, hbT⟩ : ∃ b, b = w4.heap.size := ⟨_, rfl⟩
  obtain ⟨w5, hw5⟩ : ∃ x, x = w4.alloc (.cells (tbC T0) TB) := ⟨_, rfl⟩
  obtain ⟨w6, hw6⟩ : ∃ x, x = w5.alloc (.cells #[.slice va T0.L.length vc, .int .u8 (T0.l : Nat), .int .u8 (T0.b : Nat)] RT) := ⟨_, rfl⟩
  have e5 : w5.heap.size = bT + 1 := by rw [hw5, hbT]; simp
  have b45 : Below w4.heap.size w4 w5 := by rw [hw5]; exact (Below.refl _ _).alloc (Nat.le_refl _) _
  have b56 : Below w5.heap.size w5 w6 := by rw [hw6]; exact (Below.refl _ _).alloc (Nat.le_refl _) _
  have HP0 := Lib.hid (show PSt w w6 bT T0 from ⟨(HB4.out.trans (b45.mono HB4.out.size)).trans (b56.mono (Nat.le_trans HB4.out.size b45.size)), (show TbAt w5 bT T0 by unfold TbAt; rw [hw5, hbT]; exact World.alloc_heap_new w4 _).below b56, va, vc, by rw [hw6, ← e5]; exact World.alloc_heap_new w5 _, (HI4.out.below b45).below b56⟩)
  have HBT := Lib.hid (show w.heap.size ≤ bT by rw [hbT]; exact HB4.out.size)
  have e6 : w6 = (w4.alloc (.cells (tbC T0) TB)).alloc (.cells #[.slice va T0.L.length vc, .int .u8 (T0.l : Nat), .int .u8 (T0.b : Nat)] RT) := by rw [hw6, hw5]
  clear hw5 hw6 e5 b45 b56
  go_upto_region 2 with (fail)
  rw [← hbT]
  rw [← e6]
  clear hbT e6
  go_wp2_with fail
  go_loopw [9] (fun v wr => ∃ i : Nat, v = .int .i64 ((i : Int) - 1) ∧ Hid (i ≤ ln + 1 ∧ i ≤ 41) ∧ Hid (PSt w wr bT (runT AL T0 (i - 1)))) (fun v wr => 60 - (intOf v + 1).toNat)
  case atStart => exact ⟨0, rfl, Lib.hid ⟨Nat.zero_le _, Nat.zero_le _⟩, HP0⟩
  case round =>
    obtain ⟨i, rfl, HI, HK⟩ := hrel
    clear HP0 HI4 HB4
    obtain ⟨x, hx⟩ : ∃ x, x = (i : Int) - 1 := ⟨_, rfl⟩
    rw [← hx]
    have HX0 := Lib.hid hx
    by_cases h1 : x < (ln : Int)
    · by_cases h2 : x < 40
      · have H12 := Lib.hid (And.intro h1 h2)
        have u1 : IntKind.i64.wrap (x + 1) = x + 1 := by rw [IntKind.wrap_i64]; omega
        clear hx
        go_upto_if 38 with (fail)
        go_cut [10, 11] (fun u10 u11 wc => ∃ c m : Int, u10 = .int .i64 c ∧ u11 = .int .i64 m ∧ Hid (CM c m) ∧ Hid (PSt w wc bT (runT AL T0 i)))
        case first =>
          by_cases hx0 : 0 ≤ x
          · obtain ⟨k, rfl⟩ : ∃ k, i = k + 1 := ⟨i - 1, by have := HX0.out; omega⟩
            obtain rfl : x = (k : Int) := by have := HX0.out; omega
            have hkl : k < ln := by omega
            obtain ⟨g, o, u, hla, a0, a1, a2, a3, hs, hok⟩ := HAC.out.at (i := k) (by rw [HLN.out]; exact hkl)
            obtain ⟨tn, htn⟩ : ∃ tn, tn = runT AL T0 (k + 1) := ⟨_, rfl⟩
            have HTN := Lib.hid htn
            rw [runT_more T0 (by rw [HLN.out]; exact hkl)] at htn
            have htok := runT_ok (AL := AL) HOK0.out k
            obtain ⟨t, ht⟩ : ∃ t, t = runT AL T0 k := ⟨_, rfl⟩
            rw [show k + 1 - 1 = k from rfl, ← ht] at HK
            rw [← ht] at htn htok
            obtain ⟨a, ha⟩ : ∃ a, a = AcK AL k := ⟨_, rfl⟩
            rw [← ha] at htn a0 a1 a3 hs hok
            have HD := Lib.hid (fun w (h : S16 w u a.l) => does_any a u t hok htok w h)
            have HSD := Lib.hid (fun w v (h : S16 w u a.l) (hB : BIn w v t.L) => said_any a u v t hok htok w h hB)
            rw [← htn] at HD HSD
            obtain ⟨xa, xn, xc, hxv⟩ : ∃ x y z, u = .slice x y z := by obtain ⟨x1, x2, x3, _⟩ := hs; exact ⟨x1, _, x2, x3⟩
            have HXN := Lib.hid (show a.l.length = xn by obtain ⟨x1, x2, x3, _⟩ := hs; rw [hxv] at x3; injection x3 with _ e _; exact e.symm)
            have HXM0 := Lib.hid (show xn ≤ maxLen by rw [← HXN.out]; exact hs.choose_spec.choose_spec.2.1)
            subst hxv
            have HAW := Lib.hid (show ∀ wx, Below w.heap.size w wx → wx.cell? ⟨g, o + k * 4, none⟩ = some (.int .u8 (a.what : Nat)) ∧ wx.cell? ⟨g, o + k * 4 + 1, none⟩ = some (.bool a.high) ∧ wx.cell? ⟨g, o + k * 4 + 2, none⟩ = some (.slice xa xn xc) ∧ wx.cell? ⟨g, o + k * 4 + 3, none⟩ = some (.int .i16 a.cols)from fun wx hx => ⟨(hx.cell (World.block_lt_of_cell? w _ a0)).trans a0, (hx.cell (World.block_lt_of_cell? w _ a1)).trans a1, (hx.cell (World.block_lt_of_cell? w _ a2)).trans a2, (hx.cell (World.block_lt_of_cell? w _ a3)).trans a3⟩)
            have HS := Lib.hid hs
            have HOKA := Lib.hid hok
            subst hla
            clear ht ha htn hs hok htok a0 a1 a2 a3
            obtain ⟨a0, a1, a2, a3⟩ := HAW.out wr HK.out.1
            have KEEP := Lib.hid (show ∀ wx, Below wr.heap.size wr wx → (wx.cell? ⟨g, o + k * 4, none⟩ = some (.int .u8 (a.what : Nat)) ∧ wx.cell? ⟨g, o + k * 4 + 1, none⟩ = some (.bool a.high) ∧ wx.cell? ⟨g, o + k * 4 + 2, none⟩ = some (.slice xa xn xc) ∧ wx.cell? ⟨g, o + k * 4 + 3, none⟩ = some (.int .i16 a.cols)) ∧ wx.cell? ⟨bT, 0, none⟩ = some (wV t.L 0) ∧ wx.cell? ⟨bT, 1, none⟩ = some (wV t.L 1) ∧ wx.cell? ⟨bT, 2, none⟩ = some (wV t.L 2) ∧ wx.cell? ⟨bT, 3, none⟩ = some (wV t.L 3) ∧ wx.cell? ⟨bT, 4, none⟩ = some (wV t.L 4) ∧ wx.cell? ⟨bT, 5, none⟩ = some (wV t.L 5) ∧ wx.cell? ⟨bT, 6, none⟩ = some (wV t.L 6) ∧ wx.cell? ⟨bT, 7, none⟩ = some (wV t.L 7) ∧ wx.cell? ⟨bT, 8, none⟩ = some (.int .i64 (t.L.length : Nat)) ∧ wx.cell? ⟨bT, 9, none⟩ = some (.int .u8 (t.b : Nat)) ∧ wx.cell? ⟨bT, 10, none⟩ = some (.int .u8 (t.l : Nat)) from fun wx hx => ⟨⟨(hx.cell (World.block_lt_of_cell? wr _ a0)).trans a0, (hx.cell (World.block_lt_of_cell? wr _ a1)).trans a1, (hx.cell (World.block_lt_of_cell? wr _ a2)).trans a2, (hx.cell (World.block_lt_of_cell? wr _ a3)).trans a3⟩, (HK.out.2.1.below hx).cells⟩)
            obtain ⟨c0, c1, c2, c3, c4, c5, c6, c7, c8, c9, c10⟩ := HK.out.2.1.cells
            go_upto_region 7 with (fail)
            clear a0 a1 a2 a3 c0 c1 c2 c3 c4 c5 c6 c7 c8 c9 c10
            refine region_but (S := (fun wx => (wx.cell? ⟨g, o + k * 4, none⟩ = some (.int .u8 (a.what : Nat)) ∧ wx.cell? ⟨g, o + k * 4 + 1, none⟩ = some (.bool a.high) ∧ wx.cell? ⟨g, o + k * 4 + 2, none⟩ = some (.slice xa xn xc) ∧ wx.cell? ⟨g, o + k * 4 + 3, none⟩ = some (.int .i16 a.cols)) ∧ wx.cell? ⟨bT, 0, none⟩ = some (wV t.L 0) ∧ wx.cell? ⟨bT, 1, none⟩ = some (wV t.L 1) ∧ wx.cell? ⟨bT, 2, none⟩ = some (wV t.L 2) ∧ wx.cell? ⟨bT, 3, none⟩ = some (wV t.L 3) ∧ wx.cell? ⟨bT, 4, none⟩ = some (wV t.L 4) ∧ wx.cell? ⟨bT, 5, none⟩ = some (wV t.L 5) ∧ wx.cell? ⟨bT, 6, none⟩ = some (wV t.L 6) ∧ wx.cell? ⟨bT, 7, none⟩ = some (wV t.L 7) ∧ wx.cell? ⟨bT, 8, none⟩ = some (.int .i64 (t.L.length : Nat)) ∧ wx.cell? ⟨bT, 9, none⟩ = some (.int .u8 (t.b : Nat)) ∧ wx.cell? ⟨bT, 10, none⟩ = some (.int .u8 (t.l : Nat)))) 6 (by kernel_rfl) (KEEP.out _ ((Below.refl _ _).drew)) (fun hHeld => ?_)
            obtain ⟨wz, hwz⟩ : ∃ X, X = wr.drew := ⟨_, rfl⟩
            have HX := Lib.hid (show Below wr.heap.size wr wz by rw [hwz]; exact (Below.refl _ _).drew)
            replace hHeld := KEEP.out _ HX.out
            rw [← hwz]
            clear hwz
            refine ti 0 rfl (fun w hSw => by (try dsimp only at hSw); go_simp; try with_reducible rfl) ?_
            go_frame
            refine ti 1 rfl (fun w hSw => by (try dsimp only at hSw); go_simp; try with_reducible rfl) ?_
            go_frame
            refine ti 2 rfl (fun w hSw => by (try dsimp only at hSw); go_simp; try with_reducible rfl) ?_
            go_frame
            refine ti 3 rfl (fun w hSw => by (try dsimp only at hSw); go_simp; try with_reducible rfl) ?_
            go_frame
            refine ti 4 rfl (fun w hSw => by (try dsimp only at hSw); go_simp; try with_reducible rfl) ?_
            go_frame
            refine th 5 rfl (by kernel_rfl) (by decide) (by kernel_rfl) (fun K hK => ?_)
            go_simp
            refine (HD.out _ (HS.out.below (HK.out.1.trans (HX.out.mono HK.out.1.size)))).mono ?_
            rintro e wd ⟨rfl, bb⟩
            replace HX := Lib.hid (HX.out.trans (bb.mono HX.out.size))
            clear bb
            go_wp2_with fail
            refine hK.out _ _ (KEEP.out _ HX.out) (fun hHeld => ?_)
            clear hK K
            try go_frame
            have HT7 := Lib.hid (HK.out.2.1.below HX.out)
            obtain ⟨d0, d1, d2, d3, d4, d5, d6, d7, d8, d9, d10⟩ := HT7.out.cells
            have f := zeros_at HT7.out
            have f0 := f 0
            have f1 := f 1
            have f2 := f 2
            have f3 := f 3
            have f4 := f 4
            have f5 := f 5
            have f6 := f 6
            have f7 := f 7
            have f8 := f 8
            have f9 := f 9
            have f10 := f 10
            clear f
            obtain ⟨w8, hw8⟩ : ∃ x, x = (((((((((((wd.setCell ⟨bT, 0, none⟩ (wV tn.L 0)).setCell ⟨bT, 1, none⟩ (wV tn.L 1)).setCell ⟨bT, 2, none⟩ (wV tn.L 2)).setCell ⟨bT, 3, none⟩ (wV tn.L 3)).setCell ⟨bT, 4, none⟩ (wV tn.L 4)).setCell ⟨bT, 5, none⟩ (wV tn.L 5)).setCell ⟨bT, 6, none⟩ (wV tn.L 6)).setCell ⟨bT, 7, none⟩ (wV tn.L 7)).setCell ⟨bT, 8, none⟩ (.int .i64 (tn.L.length : Nat))).setCell ⟨bT, 9, none⟩ (.int .u8 (tn.b : Nat))).setCell ⟨bT, 10, none⟩ (.int .u8 (tn.l : Nat))) := ⟨_, rfl⟩
            have HW8 := Lib.hid (show w8 = putT wd bT tn from hw8)
            refine tx rfl (by kernel_rfl) (by kernel_rfl) (by kernel_rfl) (fun K hK => ?_)
            go_simp
            rw [← hw8]
            refine hK.out _ _ ?_
            clear hK K hHeld KEEP hw8 d0 d1 d2 d3 d4 d5 d6 d7 d8 d9 d10 f0 f1 f2 f3 f4 f5 f6 f7 f8 f9 f10
            try go_frame
            obtain ⟨va2, vc2, hR, hBI⟩ := HK.out.2.2
            have b8 : But bT wd w8 := by rw [HW8.out]; exact putT_bt wd bT tn
            have bwd := HK.out.1.trans (HX.out.mono HK.out.1.size)
            have HB8 := Lib.hid (show Below w.heap.size w w8 from bwd.trans (b8.below (C := w.heap.size) HBT.out bwd.size))
            have HT8 := Lib.hid (show TbAt w8 bT tn by rw [HW8.out]; exact putT_at HT7.out tn)
            have HI8 := Lib.hid ((hBI.below HX.out).butT HT7.out b8)
            have hRd := (HX.out.block (bT + 1) (Array.getElem?_eq_some_iff.1 hR).1).trans hR
            have HR8 := Lib.hid ((b8.block (bT + 1) (Array.getElem?_eq_some_iff.1 hRd).1 (by simp)).trans hRd)
            clear hR hBI b8 bwd hRd HW8 HT7
            obtain ⟨a0, a1, a2, a3⟩ := HAW.out w8 HB8.out
            obtain ⟨c0, c1, c2, _⟩ := cells3 HR8.out
            have KEEP := Lib.hid (show ∀ wx, Below w8.heap.size w8 wx → (wx.cell? ⟨g, o + k * 4, none⟩ = some (.int .u8 (a.what : Nat)) ∧ wx.cell? ⟨g, o + k * 4 + 1, none⟩ = some (.bool a.high) ∧ wx.cell? ⟨g, o + k * 4 + 2, none⟩ = some (.slice xa xn xc) ∧ wx.cell? ⟨g, o + k * 4 + 3, none⟩ = some (.int .i16 a.cols)) ∧ wx.cell? ⟨bT + 1, 0, none⟩ = some (.slice va2 t.L.length vc2) ∧ wx.cell? ⟨bT + 1, 1, none⟩ = some (.int .u8 (t.l : Nat)) ∧ wx.cell? ⟨bT + 1, 2, none⟩ = some (.int .u8 (t.b : Nat)) from fun wx hx => ⟨HAW.out wx (HB8.out.trans (hx.mono HB8.out.size)), (hx.cell (World.block_lt_of_cell? w8 _ c0)).trans c0, (hx.cell (World.block_lt_of_cell? w8 _ c1)).trans c1, (hx.cell (World.block_lt_of_cell? w8 _ c2)).trans c2⟩)
            clear HX
            go_upto_region 8 with (fail)
            clear a0 a1 a2 a3 c0 c1 c2
            refine region_but (S := (fun wx => (wx.cell? ⟨g, o + k * 4, none⟩ = some (.int .u8 (a.what : Nat)) ∧ wx.cell? ⟨g, o + k * 4 + 1, none⟩ = some (.bool a.high) ∧ wx.cell? ⟨g, o + k * 4 + 2, none⟩ = some (.slice xa xn xc) ∧ wx.cell? ⟨g, o + k * 4 + 3, none⟩ = some (.int .i16 a.cols)) ∧ wx.cell? ⟨bT + 1, 0, none⟩ = some (.slice va2 t.L.length vc2) ∧ wx.cell? ⟨bT + 1, 1, none⟩ = some (.int .u8 (t.l : Nat)) ∧ wx.cell? ⟨bT + 1, 2, none⟩ = some (.int .u8 (t.b : Nat)))) 6 (by kernel_rfl) (KEEP.out _ ((Below.refl _ _).drew)) (fun hHeld => ?_)
            obtain ⟨wz, hwz⟩ : ∃ X, X = w8.drew := ⟨_, rfl⟩
            have HX := Lib.hid (show Below w8.heap.size w8 wz by rw [hwz]; exact (Below.refl _ _).drew)
            replace hHeld := KEEP.out _ HX.out
            rw [← hwz]
            clear hwz
            refine ti 0 rfl (fun w hSw => by (try dsimp only at hSw); go_simp; try with_reducible rfl) ?_
            go_frame
            refine ti 1 rfl (fun w hSw => by (try dsimp only at hSw); go_simp; try with_reducible rfl) ?_
            go_frame
            refine ti 2 rfl (fun w hSw => by (try dsimp only at hSw); go_simp; try with_reducible rfl) ?_
            go_frame
            refine ti 3 rfl (fun w hSw => by (try dsimp only at hSw); go_simp; try with_reducible rfl) ?_
            go_frame
            refine ti 4 rfl (fun w hSw => by (try dsimp only at hSw); go_simp; try with_reducible rfl) ?_
            go_frame
            refine th 5 rfl (by kernel_rfl) (by decide) (by kernel_rfl) (fun K hK => ?_)
            go_simp
            refine (HSD.out _ _ (HS.out.below (HB8.out.trans (HX.out.mono HB8.out.size))) (HI8.out.below HX.out)).mono ?_
            rintro e w9 ⟨v9, rfl, hI9, bb⟩
            have HI9 := Lib.hid hI9
            clear hI9
            replace HX := Lib.hid (HX.out.trans (bb.mono HX.out.size))
            clear bb
            go_wp2_with fail
            refine hK.out _ _ (KEEP.out _ HX.out) (fun hHeld => ?_)
            clear hK K
            try go_frame
            obtain ⟨vb, vd, ev⟩ := HI9.out.shape
            subst ev
            have HR9 := Lib.hid ((HX.out.block (bT + 1) (Array.getElem?_eq_some_iff.1 HR8.out).1).trans HR8.out)
            have HB9 := Lib.hid (HB8.out.trans (HX.out.mono HB8.out.size))
            obtain ⟨g0, g1, g2, f0, f1, f2⟩ := cells3 HR9.out
            obtain ⟨wf, hwf⟩ : ∃ x, x = ((w9.setCell ⟨bT + 1, 0, none⟩ (.slice vb tn.L.length vd)).setCell ⟨bT + 1, 1, none⟩ (.int .u8 (tn.l : Nat))).setCell ⟨bT + 1, 2, none⟩ (.int .u8 (tn.b : Nat)) := ⟨_, rfl⟩
            have HF := Lib.hid (fin4 HR9.out HI9.out HB9.out (by have := HBT.out; omega) hwf)
            have HTF := Lib.hid (show TbAt wf bT tn by
              have bt : But (bT + 1) w9 wf := by rw [hwf]; exact ((But.set w9 (bT + 1) 0 _).trans (But.set _ (bT + 1) 1 _)).trans (But.set _ (bT + 1) 2 _)
              have h9 := HT8.out.below HX.out
              exact (bt.block bT h9.lt (by simp)).trans h9)
            refine tx rfl (by kernel_rfl) (by kernel_rfl) (by kernel_rfl) (fun K hK => ?_)
            go_simp
            rw [← hwf]
            refine hK.out _ _ ?_
            clear hK K hHeld KEEP hwf g0 g1 g2 f0 f1 f2
            try go_frame
            obtain ⟨a0, a1, a2, a3⟩ := HAW.out wf HF.out.2.1
            have HXM := Lib.hid (show xn ≤ 9223372036854775807 by have := HXM0.out; unfold maxLen at this; exact this)
            have u2 : IntKind.i64.wrap a.cols = a.cols := by rw [IntKind.wrap_i64]; have := HOKA.out.2; omega
            have u3 : IntKind.i64.wrap ((xn : Int) - 1) = (xn : Int) - 1 := by rw [IntKind.wrap_i64]; have := HXM.out; omega
            go_wp2
            go_meet
            case rel =>
              refine ⟨a.cols, (xn : Int) - 1, rfl, rfl, Lib.hid ⟨by have := HOKA.out.2; omega, by have := HOKA.out.2; omega, by omega, by have := HXM.out; omega⟩, Lib.hid ?_⟩
              rw [← HTN.out]
              exact ⟨HF.out.2.1, HTF.out, vb, vd, HF.out.1, HF.out.2.2⟩
          · obtain rfl : i = 0 := by have := HX0.out; omega
            go_wp2
            go_meet
            case rel => exact ⟨n, 1, rfl, rfl, Lib.hid ⟨HNN.out.1, HNN.out.2, by omega, by omega⟩, Lib.hid HK.out⟩
        rename World => wo
        obtain ⟨c, m, rfl, rfl, HCM, HPS⟩ := hcut
        obtain ⟨t, ht⟩ : ∃ t, t = runT AL T0 i := ⟨_, rfl⟩
        have HTE := Lib.hid ht
        have HOK := Lib.hid (show t.Ok by rw [ht]; exact runT_ok HOK0.out i)
        rw [← ht] at HPS
        clear ht
        obtain ⟨va, vc, hR, hBI⟩ := HPS.out.2.2
        have HRR := Lib.hid hR
        have HBI := Lib.hid hBI
        clear hR hBI
        have HLEN := Lib.hid (show t.L.length ≤ 512 from HOK.out.len)
        have KEEP := Lib.hid (show ∀ wx, Below wo.heap.size wo wx → wx.cell? ⟨bT, 0, none⟩ = some (wV t.L 0) ∧ wx.cell? ⟨bT, 1, none⟩ = some (wV t.L 1) ∧ wx.cell? ⟨bT, 2, none⟩ = some (wV t.L 2) ∧ wx.cell? ⟨bT, 3, none⟩ = some (wV t.L 3) ∧ wx.cell? ⟨bT, 4, none⟩ = some (wV t.L 4) ∧ wx.cell? ⟨bT, 5, none⟩ = some (wV t.L 5) ∧ wx.cell? ⟨bT, 6, none⟩ = some (wV t.L 6) ∧ wx.cell? ⟨bT, 7, none⟩ = some (wV t.L 7) ∧ wx.cell? ⟨bT, 8, none⟩ = some (.int .i64 (t.L.length : Nat)) ∧ wx.cell? ⟨bT, 9, none⟩ = some (.int .u8 (t.b : Nat)) ∧ wx.cell? ⟨bT, 10, none⟩ = some (.int .u8 (t.l : Nat)) ∧ wx.cell? ⟨bT + 1, 0, none⟩ = some (.slice va t.L.length vc) ∧ wx.cell? ⟨bT + 1, 1, none⟩ = some (.int .u8 (t.l : Nat)) ∧ wx.cell? ⟨bT + 1, 2, none⟩ = some (.int .u8 (t.b : Nat)) from fun wx hx => by
          obtain ⟨q0, q1, q2, q3, q4, q5, q6, q7, q8, q9, q10⟩ := (HPS.out.2.1.below hx).cells
          obtain ⟨r0, r1, r2, _⟩ := cells3 ((hx.block (bT + 1) (Array.getElem?_eq_some_iff.1 HRR.out).1).trans HRR.out)
          exact ⟨q0, q1, q2, q3, q4, q5, q6, q7, q8, q9, q10, r0, r1, r2⟩)
        have HZ := Lib.hid (Below.refl wo.heap.size wo)
        go_upto_region 11 with (fail)
        refine wp_region_held_drew (S := (fun wx => wx.cell? ⟨bT, 0, none⟩ = some (wV t.L 0) ∧ wx.cell? ⟨bT, 1, none⟩ = some (wV t.L 1) ∧ wx.cell? ⟨bT, 2, none⟩ = some (wV t.L 2) ∧ wx.cell? ⟨bT, 3, none⟩ = some (wV t.L 3) ∧ wx.cell? ⟨bT, 4, none⟩ = some (wV t.L 4) ∧ wx.cell? ⟨bT, 5, none⟩ = some (wV t.L 5) ∧ wx.cell? ⟨bT, 6, none⟩ = some (wV t.L 6) ∧ wx.cell? ⟨bT, 7, none⟩ = some (wV t.L 7) ∧ wx.cell? ⟨bT, 8, none⟩ = some (.int .i64 (t.L.length : Nat)) ∧ wx.cell? ⟨bT, 9, none⟩ = some (.int .u8 (t.b : Nat)) ∧ wx.cell? ⟨bT, 10, none⟩ = some (.int .u8 (t.l : Nat)) ∧ wx.cell? ⟨bT + 1, 0, none⟩ = some (.slice va t.L.length vc) ∧ wx.cell? ⟨bT + 1, 1, none⟩ = some (.int .u8 (t.l : Nat)) ∧ wx.cell? ⟨bT + 1, 2, none⟩ = some (.int .u8 (t.b : Nat)))) (by kernel_rfl) (KEEP.out _ ((Below.refl _ _).drew)) (fun hHeld => ?_)
        obtain ⟨wz, hwz⟩ : ∃ X, X = wo.drew := ⟨_, rfl⟩
        have HX := Lib.hid (show Below wo.heap.size wo wz by rw [hwz]; exact (Below.refl _ _).drew)
        replace hHeld := KEEP.out _ HX.out
        rw [← hwz]
        clear hwz
        refine tk 0 rfl (fun w hSw => by (try dsimp only at hSw); go_simp; try with_reducible rfl) ?_
        go_frame
        refine tk 2 rfl (fun w hSw => by (try dsimp only at hSw); go_simp; try with_reducible rfl) ?_
        go_frame
        refine do_at (i := 1) rfl (by kernel_rfl) (by kernel_rfl) (fun K hK => ?_)
        go_simp
        refine (list_any t HLEN.out _).mono ?_
        rintro e x1 ⟨v1, rfl, hu, bb⟩
        have HU1 := Lib.hid (isIn_of hu)
        clear hu
        replace HX := Lib.hid (HX.out.trans (bb.mono HX.out.size))
        clear bb
        go_wp2_with fail
        refine hK.out _ _ (KEEP.out _ HX.out) (fun hHeld => ?_)
        clear hK K
        try go_frame
        refine do_at (i := 3) rfl (by kernel_rfl) (by kernel_rfl) (fun K hK => ?_)
        go_simp
        refine (rlist_any _ t _ (HBI.out.below (HZ.out.trans (HX.out.mono HZ.out.size))) HLEN.out).mono ?_
        rintro e x2 ⟨v2, rfl, hu, bb⟩
        have HU2 := Lib.hid (isIn_of hu)
        replace HU1 := Lib.hid (HU1.out.below bb)
        clear hu
        replace HX := Lib.hid (HX.out.trans (bb.mono HX.out.size))
        clear bb
        go_wp2_with fail
        refine hK.out _ _ (KEEP.out _ HX.out) (fun hHeld => ?_)
        clear hK K
        try go_frame
        have hint := Lib.hid (show ∀ w, IsIn w v1 (is (stops t.L)) → IsIn w v2 (is (stops t.L)) → Calls Try.prog 14 #[v1, v2] w fun e w' => e = .returned (.bool true) ∧ Below w.heap.size w w' from fun w h k => by
          have := ints_any w v1 v2 _ _ h k (by have := stops_len t.L; have := HLEN.out; simp; omega)
          rw [decide_eq_true rfl] at this
          exact this)
        refine do_at (i := 4) rfl (by kernel_rfl) (by kernel_rfl) (fun K hK => ?_)
        go_simp
        refine (hint.out _ HU1.out HU2.out).mono ?_
        rintro e x3 ⟨rfl, bb⟩
        clear hint HU1 HU2
        replace HX := Lib.hid (HX.out.trans (bb.mono HX.out.size))
        clear bb
        go_wp2_with fail
        refine hK.out _ _ (KEEP.out _ HX.out) (fun hHeld => ?_)
        clear hK K
        try go_frame
        refine tk 5 rfl (fun w hSw => by (try dsimp only at hSw); go_simp; try with_reducible rfl) ?_
        go_frame
        refine tk 6 rfl (fun w hSw => by (try dsimp only at hSw); go_simp; try with_reducible rfl) ?_
        go_frame
        refine tk 7 rfl (fun w hSw => by (try dsimp only at hSw); go_simp; try with_reducible rfl) ?_
        go_frame
        refine tk 9 rfl (fun w hSw => by (try dsimp only at hSw); go_simp; try with_reducible rfl) ?_
        go_frame
        refine tk 10 rfl (fun w hSw => by (try dsimp only at hSw); go_simp; try with_reducible rfl) ?_
        go_frame
        refine do_at (i := 8) rfl (by kernel_rfl) (by kernel_rfl) (fun K hK => ?_)
        go_simp
        refine (label_any t _).mono ?_
        rintro e x4 ⟨rfl, bb⟩
        replace HX := Lib.hid (HX.out.trans (bb.mono HX.out.size))
        clear bb
        go_wp2_with fail
        refine hK.out _ _ (KEEP.out _ HX.out) (fun hHeld => ?_)
        clear hK K
        try go_frame
        refine tk 11 rfl (fun w hSw => by (try dsimp only at hSw); go_simp; try with_reducible rfl) ?_
        go_frame
        refine tk 12 rfl (fun w hSw => by (try dsimp only at hSw); go_simp; try with_reducible rfl) ?_
        go_frame
        refine tk 13 rfl (fun w hSw => by (try dsimp only at hSw); go_simp; try with_reducible rfl) ?_
        go_frame
        refine tk 14 rfl (fun w hSw => by (try dsimp only at hSw); go_simp; try with_reducible rfl) ?_
        go_frame
        refine tk 16 rfl (fun w hSw => by (try dsimp only at hSw); go_simp; try with_reducible rfl) ?_
        go_frame
        refine tk 17 rfl (fun w hSw => by (try dsimp only at hSw); go_simp; try with_reducible rfl) ?_
        go_frame
        refine tk 18 rfl (fun w hSw => by (try dsimp only at hSw); go_simp; try with_reducible rfl) ?_
        go_frame
        refine do_at (i := 15) rfl (by kernel_rfl) (by kernel_rfl) (fun K hK => ?_)
        go_simp
        refine (cols_any t _).mono ?_
        rintro e x5 ⟨rfl, bb⟩
        replace HX := Lib.hid (HX.out.trans (bb.mono HX.out.size))
        clear bb
        go_wp2_with fail
        refine hK.out _ _ (KEEP.out _ HX.out) (fun hHeld => ?_)
        clear hK K
        try go_frame
        refine tk 19 rfl (fun w hSw => by (try dsimp only at hSw); go_simp; try with_reducible rfl) ?_
        go_frame
        refine tk 20 rfl (fun w hSw => by (try dsimp only at hSw); go_simp; try with_reducible rfl) ?_
        go_frame
        refine wpAnyH_done (by kernel_rfl) ?_ _
        clear hHeld
        obtain ⟨d, hd⟩ : ∃ d, d = c.tmod 40 := ⟨_, rfl⟩
        have HD := Lib.hid (show -40 ≤ d ∧ d ≤ 40 by
          have h1 := Int.tmod_lt_of_pos c (show (0 : Int) < 40 by decide)
          have h2 := Int.lt_tmod_of_pos c (show (0 : Int) < 40 by decide)
          omega)
        have r1 : c.tmod 40 = d := hd.symm
        have r3 : IntKind.i64.wrap d = d := by rw [IntKind.wrap_i64]; have := HD.out; omega
        clear hd
        obtain ⟨q0, q1, q2, q3, q4, q5, q6, q7, q8, q9, q10, q11, q12, q13⟩ := KEEP.out _ HX.out
        go_wp2_with fail
        refine (cols_any t _).mono ?_
        rintro e x6 ⟨rfl, bb⟩
        replace HX := Lib.hid (HX.out.trans (bb.mono HX.out.size))
        clear bb q0 q1 q2 q3 q4 q5 q6 q7 q8 q9 q10 q11 q12 q13 r1 r3
        have HC4 := Lib.hid (show ∀ j : Nat, j < 4 → ∃ p : Int, -40000 ≤ p ∧ p ≤ 40000 ∧ ∀ w, (Instr.index 45 (.agg #[.int .i64 c, .int .i64 d, .int .i64 0, .int .i64 (t.L.length : Nat)]) (.int .i64 (j : Nat))).run Try.prog w = .ok (.int .i64 p) w from fun j hj => by
          have h1 := HCM.out
          have h2 := HD.out
          have h3 := HLEN.out
          have hc1 := h1.1
          have hc2 := h1.2.1
          match j, hj with
          | 0, _ => exact ⟨c, by omega, by omega, fun w => (idx4 c d 0 _ w).1⟩
          | 1, _ => exact ⟨d, by omega, by omega, fun w => (idx4 c d 0 _ w).2.1⟩
          | 2, _ => exact ⟨0, by omega, by omega, fun w => (idx4 c d 0 _ w).2.2.1⟩
          | 3, _ => exact ⟨(t.L.length : Nat), by omega, by omega, fun w => (idx4 c d 0 _ w).2.2.2⟩)
        go_wp2_with fail
        go_loopw [91] (fun v wy => ∃ j : Nat, v = .int .i64 (j : Nat) ∧ Hid (j ≤ 4) ∧ Hid (Below wo.heap.size wo wy)) (fun v wy => 10 - (intOf v).toNat)
        case atStart => exact ⟨0, rfl, Lib.hid (Nat.zero_le _), HX⟩
        case round =>
          obtain ⟨j, rfl, HJ, HY⟩ := hrel
          have u5 : IntKind.i64.wrap ((j : Int) + 1) = ((j + 1 : Nat) : Int) := by rw [IntKind.wrap_i64]; have := HJ.out; omega
          by_cases hj : j < 4
          · obtain ⟨p, hp1, hp2, hidx⟩ := HC4.out j hj
            have HP12 := Lib.hid (And.intro hp1 hp2)
            have HHJ := Lib.hid hj
            have g4 : (j : Int) < 4 := by omega
            clear hp1 hp2
            obtain ⟨wy, hwy⟩ : ∃ x, x = wr := ⟨_, rfl⟩
            rw [← hwy] at HY ⊢
            clear hwy
            obtain ⟨_, _, _, _, _, _, _, _, _, _, _, q11, _, _⟩ := KEEP.out _ HY.out
            go_upto_region 16 with (fail)
            go_cut [14] (fun v wk => v = .bool (hasM t.L p) ∧ Hid (wk = wy))
            case first =>
              by_cases hp0 : 0 ≤ p
              · by_cases hp1 : p < (t.L.length : Int)
                · obtain ⟨n', hn'⟩ : ∃ n' : Nat, p = n' := ⟨p.toNat, by omega⟩
                  subst hn'
                  have hnl : n' < t.L.length := by omega
                  obtain ⟨g9, o9, hv9, hc9⟩ := (HBI.out.below HY.out).get hnl
                  subst hv9
                  obtain ⟨z, hz⟩ : ∃ z, z = t.L.getD n' false := ⟨_, rfl⟩
                  have HE9 := Lib.hid (show hasM t.L (n' : Int) = z by rw [hz]; unfold hasM; simp)
                  rw [← hz] at hc9
                  clear hz
                  go_wp2
                  go_meet
                  case rel => exact ⟨by rw [HE9.out], Lib.hid rfl⟩
                · have e9 : hasM t.L p = false := by
                    unfold hasM
                    rw [List.getD_eq_getElem?_getD, List.getElem?_eq_none (by omega)]
                    simp
                  have HE9 := Lib.hid e9
                  clear e9
                  go_wp2
                  go_meet
                  case rel => exact ⟨by rw [HE9.out], Lib.hid rfl⟩
              · have e9 : hasM t.L p = false := by
                  unfold hasM
                  rw [decide_eq_false hp0]
                  rfl
                have HE9 := Lib.hid e9
                clear e9
                go_wp2
                go_meet
                case rel => exact ⟨by rw [HE9.out], Lib.hid rfl⟩
            obtain ⟨rfl, hwk⟩ := hcut
            rw [hwk.out]
            clear hwk q11 u5 g4 hidx
            have u5 : IntKind.i64.wrap ((j : Int) + 1) = ((j + 1 : Nat) : Int) := by rw [IntKind.wrap_i64]; have := HJ.out; omega
            obtain ⟨z, hz⟩ : ∃ z, z = hasM t.L p := ⟨_, rfl⟩
            obtain ⟨a1, ha1⟩ : ∃ z, z = nextM t.L p m := ⟨_, rfl⟩
            obtain ⟨a2, ha2⟩ : ∃ z, z = backM t.L p m := ⟨_, rfl⟩
            obtain ⟨a3, ha3⟩ : ∃ z, z = nextM t.L p 1 := ⟨_, rfl⟩
            obtain ⟨a4, ha4⟩ : ∃ z, z = backM t.L p 1 := ⟨_, rfl⟩
            have HHAS := Lib.hid (fun w => has_any t HOK.out p w)
            have HN1 := Lib.hid (fun w => next_any t HLEN.out p m HCM.out.2.2.2 w)
            have HN2 := Lib.hid (fun v w (h : BIn w v t.L) => rnext_any v t w h HLEN.out p m (by have := HP12.out; omega) (by have := HP12.out; omega) (by have := HCM.out.2.2.1; omega) HCM.out.2.2.2)
            have HB1 := Lib.hid (fun w => back_any t HLEN.out p m HCM.out.2.2.2 w)
            have HB2 := Lib.hid (fun v w (h : BIn w v t.L) => rback_any v t w h HLEN.out p m (by have := HP12.out; omega) (by have := HP12.out; omega) (by have := HCM.out.2.2.1; omega) HCM.out.2.2.2)
            have HN3 := Lib.hid (fun w => next_any t HLEN.out p 1 (by decide) w)
            have HN4 := Lib.hid (fun v w (h : BIn w v t.L) => rnext_any v t w h HLEN.out p 1 (by have := HP12.out; omega) (by have := HP12.out; omega) (by decide) (by decide))
            have HB3 := Lib.hid (fun w => back_any t HLEN.out p 1 (by decide) w)
            have HB4 := Lib.hid (fun v w (h : BIn w v t.L) => rback_any v t w h HLEN.out p 1 (by have := HP12.out; omega) (by have := HP12.out; omega) (by decide) (by decide))
            rw [← hz] at HHAS ⊢
            rw [← ha1] at HN1 HN2
            rw [← ha2] at HB1 HB2
            rw [← ha3] at HN3 HN4
            rw [← ha4] at HB3 HB4
            clear hz ha1 ha2 ha3 ha4
            have KEEPY := Lib.hid (show ∀ wx, Below wy.heap.size wy wx → wx.cell? ⟨bT, 0, none⟩ = some (wV t.L 0) ∧ wx.cell? ⟨bT, 1, none⟩ = some (wV t.L 1) ∧ wx.cell? ⟨bT, 2, none⟩ = some (wV t.L 2) ∧ wx.cell? ⟨bT, 3, none⟩ = some (wV t.L 3) ∧ wx.cell? ⟨bT, 4, none⟩ = some (wV t.L 4) ∧ wx.cell? ⟨bT, 5, none⟩ = some (wV t.L 5) ∧ wx.cell? ⟨bT, 6, none⟩ = some (wV t.L 6) ∧ wx.cell? ⟨bT, 7, none⟩ = some (wV t.L 7) ∧ wx.cell? ⟨bT, 8, none⟩ = some (.int .i64 (t.L.length : Nat)) ∧ wx.cell? ⟨bT, 9, none⟩ = some (.int .u8 (t.b : Nat)) ∧ wx.cell? ⟨bT, 10, none⟩ = some (.int .u8 (t.l : Nat)) ∧ wx.cell? ⟨bT + 1, 0, none⟩ = some (.slice va t.L.length vc) ∧ wx.cell? ⟨bT + 1, 1, none⟩ = some (.int .u8 (t.l : Nat)) ∧ wx.cell? ⟨bT + 1, 2, none⟩ = some (.int .u8 (t.b : Nat)) from fun wx hx => KEEP.out wx (HY.out.trans (hx.mono HY.out.size)))
            go_upto_region 17 with (fail)
            refine wp_region_held_drew (S := (fun wx => wx.cell? ⟨bT, 0, none⟩ = some (wV t.L 0) ∧ wx.cell? ⟨bT, 1, none⟩ = some (wV t.L 1) ∧ wx.cell? ⟨bT, 2, none⟩ = some (wV t.L 2) ∧ wx.cell? ⟨bT, 3, none⟩ = some (wV t.L 3) ∧ wx.cell? ⟨bT, 4, none⟩ = some (wV t.L 4) ∧ wx.cell? ⟨bT, 5, none⟩ = some (wV t.L 5) ∧ wx.cell? ⟨bT, 6, none⟩ = some (wV t.L 6) ∧ wx.cell? ⟨bT, 7, none⟩ = some (wV t.L 7) ∧ wx.cell? ⟨bT, 8, none⟩ = some (.int .i64 (t.L.length : Nat)) ∧ wx.cell? ⟨bT, 9, none⟩ = some (.int .u8 (t.b : Nat)) ∧ wx.cell? ⟨bT, 10, none⟩ = some (.int .u8 (t.l : Nat)) ∧ wx.cell? ⟨bT + 1, 0, none⟩ = some (.slice va t.L.length vc) ∧ wx.cell? ⟨bT + 1, 1, none⟩ = some (.int .u8 (t.l : Nat)) ∧ wx.cell? ⟨bT + 1, 2, none⟩ = some (.int .u8 (t.b : Nat)))) (by kernel_rfl) (KEEPY.out _ ((Below.refl _ _).drew)) (fun hHeld => ?_)
            obtain ⟨wz, hwz⟩ : ∃ X, X = wy.drew := ⟨_, rfl⟩
            have HX := Lib.hid (show Below wy.heap.size wy wz by rw [hwz]; exact (Below.refl _ _).drew)
            replace hHeld := KEEPY.out _ HX.out
            rw [← hwz]
            clear hwz
            refine tk 0 rfl (fun w hSw => by (try dsimp only at hSw); go_simp; try with_reducible rfl) ?_
            go_frame
            refine tk 1 rfl (fun w hSw => by (try dsimp only at hSw); go_simp; try with_reducible rfl) ?_
            go_frame
            refine tk 3 rfl (fun w hSw => by (try dsimp only at hSw); go_simp; try with_reducible rfl) ?_
            go_frame
            refine do_at (i := 2) rfl (by kernel_rfl) (by kernel_rfl) (fun K hK => ?_)
            go_simp
            refine (HHAS.out _).mono ?_
            rintro e y1 ⟨rfl, bb⟩
            replace HX := Lib.hid (HX.out.trans (bb.mono HX.out.size))
            clear bb
            go_wp2_with fail
            refine hK.out _ _ (KEEPY.out _ HX.out) (fun hHeld => ?_)
            clear hK K
            try go_frame
            refine tk 4 rfl (fun w hSw => by (try dsimp only at hSw); go_simp; try with_reducible rfl) ?_
            go_frame
            refine tk 5 rfl (fun w hSw => by (try dsimp only at hSw); go_simp; try with_reducible rfl) ?_
            go_frame
            refine tk 6 rfl (fun w hSw => by (try dsimp only at hSw); go_simp; try with_reducible rfl) ?_
            go_frame
            refine tk 7 rfl (fun w hSw => by (try dsimp only at hSw); go_simp; try with_reducible rfl) ?_
            go_frame
            refine tk 8 rfl (fun w hSw => by (try dsimp only at hSw); go_simp; try with_reducible rfl) ?_
            go_frame
            refine tk 10 rfl (fun w hSw => by (try dsimp only at hSw); go_simp; try with_reducible rfl) ?_
            go_frame
            refine tk 11 rfl (fun w hSw => by (try dsimp only at hSw); go_simp; try with_reducible rfl) ?_
            go_frame
            refine tk 12 rfl (fun w hSw => by (try dsimp only at hSw); go_simp; try with_reducible rfl) ?_
            go_frame
            refine do_at (i := 9) rfl (by kernel_rfl) (by kernel_rfl) (fun K hK => ?_)
            go_simp
            refine (HN1.out _).mono ?_
            rintro e y2 ⟨rfl, bb⟩
            replace HX := Lib.hid (HX.out.trans (bb.mono HX.out.size))
            clear bb
            go_wp2_with fail
            refine hK.out _ _ (KEEPY.out _ HX.out) (fun hHeld => ?_)
            clear hK K
            try go_frame
            refine do_at (i := 13) rfl (by kernel_rfl) (by kernel_rfl) (fun K hK => ?_)
            go_simp
            refine (HN2.out _ _ (HBI.out.below (HY.out.trans (HX.out.mono HY.out.size)))).mono ?_
            rintro e y3 ⟨rfl, bb⟩
            replace HX := Lib.hid (HX.out.trans (bb.mono HX.out.size))
            clear bb
            go_wp2_with fail
            refine hK.out _ _ (KEEPY.out _ HX.out) (fun hHeld => ?_)
            clear hK K
            try go_frame
            refine tk 14 rfl (fun w hSw => by (try dsimp only at hSw); go_simp; try with_reducible rfl) ?_
            go_frame
            refine tk 15 rfl (fun w hSw => by (try dsimp only at hSw); go_simp; try with_reducible rfl) ?_
            go_frame
            refine tk 16 rfl (fun w hSw => by (try dsimp only at hSw); go_simp; try with_reducible rfl) ?_
            go_frame
            refine tk 17 rfl (fun w hSw => by (try dsimp only at hSw); go_simp; try with_reducible rfl) ?_
            go_frame
            refine tk 18 rfl (fun w hSw => by (try dsimp only at hSw); go_simp; try with_reducible rfl) ?_
            go_frame
            refine tk 19 rfl (fun w hSw => by (try dsimp only at hSw); go_simp; try with_reducible rfl) ?_
            go_frame
            refine tk 21 rfl (fun w hSw => by (try dsimp only at hSw); go_simp; try with_reducible rfl) ?_
            go_frame
            refine tk 22 rfl (fun w hSw => by (try dsimp only at hSw); go_simp; try with_reducible rfl) ?_
            go_frame
            refine tk 23 rfl (fun w hSw => by (try dsimp only at hSw); go_simp; try with_reducible rfl) ?_
            go_frame
            refine do_at (i := 20) rfl (by kernel_rfl) (by kernel_rfl) (fun K hK => ?_)
            go_simp
            refine (HB1.out _).mono ?_
            rintro e y4 ⟨rfl, bb⟩
            replace HX := Lib.hid (HX.out.trans (bb.mono HX.out.size))
            clear bb
            go_wp2_with fail
            refine hK.out _ _ (KEEPY.out _ HX.out) (fun hHeld => ?_)
            clear hK K
            try go_frame
            refine do_at (i := 24) rfl (by kernel_rfl) (by kernel_rfl) (fun K hK => ?_)
            go_simp
            refine (HB2.out _ _ (HBI.out.below (HY.out.trans (HX.out.mono HY.out.size)))).mono ?_
            rintro e y5 ⟨rfl, bb⟩
            replace HX := Lib.hid (HX.out.trans (bb.mono HX.out.size))
            clear bb
            go_wp2_with fail
            refine hK.out _ _ (KEEPY.out _ HX.out) (fun hHeld => ?_)
            clear hK K
            try go_frame
            refine tk 25 rfl (fun w hSw => by (try dsimp only at hSw); go_simp; try with_reducible rfl) ?_
            go_frame
            refine tk 26 rfl (fun w hSw => by (try dsimp only at hSw); go_simp; try with_reducible rfl) ?_
            go_frame
            refine tk 27 rfl (fun w hSw => by (try dsimp only at hSw); go_simp; try with_reducible rfl) ?_
            go_frame
            refine tk 28 rfl (fun w hSw => by (try dsimp only at hSw); go_simp; try with_reducible rfl) ?_
            go_frame
            refine tk 29 rfl (fun w hSw => by (try dsimp only at hSw); go_simp; try with_reducible rfl) ?_
            go_frame
            refine tk 31 rfl (fun w hSw => by (try dsimp only at hSw); go_simp; try with_reducible rfl) ?_
            go_frame
            refine tk 32 rfl (fun w hSw => by (try dsimp only at hSw); go_simp; try with_reducible rfl) ?_
            go_frame
            refine do_at (i := 30) rfl (by kernel_rfl) (by kernel_rfl) (fun K hK => ?_)
            go_simp
            refine (HN3.out _).mono ?_
            rintro e y6 ⟨rfl, bb⟩
            replace HX := Lib.hid (HX.out.trans (bb.mono HX.out.size))
            clear bb
            go_wp2_with fail
            refine hK.out _ _ (KEEPY.out _ HX.out) (fun hHeld => ?_)
            clear hK K
            try go_frame
            refine do_at (i := 33) rfl (by kernel_rfl) (by kernel_rfl) (fun K hK => ?_)
            go_simp
            refine (HN4.out _ _ (HBI.out.below (HY.out.trans (HX.out.mono HY.out.size)))).mono ?_
            rintro e y7 ⟨rfl, bb⟩
            replace HX := Lib.hid (HX.out.trans (bb.mono HX.out.size))
            clear bb
            go_wp2_with fail
            refine hK.out _ _ (KEEPY.out _ HX.out) (fun hHeld => ?_)
            clear hK K
            try go_frame
            refine tk 34 rfl (fun w hSw => by (try dsimp only at hSw); go_simp; try with_reducible rfl) ?_
            go_frame
            refine tk 35 rfl (fun w hSw => by (try dsimp only at hSw); go_simp; try with_reducible rfl) ?_
            go_frame
            refine tk 36 rfl (fun w hSw => by (try dsimp only at hSw); go_simp; try with_reducible rfl) ?_
            go_frame
            refine tk 37 rfl (fun w hSw => by (try dsimp only at hSw); go_simp; try with_reducible rfl) ?_
            go_frame
            refine tk 38 rfl (fun w hSw => by (try dsimp only at hSw); go_simp; try with_reducible rfl) ?_
            go_frame
            refine tk 40 rfl (fun w hSw => by (try dsimp only at hSw); go_simp; try with_reducible rfl) ?_
            go_frame
            refine tk 41 rfl (fun w hSw => by (try dsimp only at hSw); go_simp; try with_reducible rfl) ?_
            go_frame
            refine do_at (i := 39) rfl (by kernel_rfl) (by kernel_rfl) (fun K hK => ?_)
            go_simp
            refine (HB3.out _).mono ?_
            rintro e y8 ⟨rfl, bb⟩
            replace HX := Lib.hid (HX.out.trans (bb.mono HX.out.size))
            clear bb
            go_wp2_with fail
            refine hK.out _ _ (KEEPY.out _ HX.out) (fun hHeld => ?_)
            clear hK K
            try go_frame
            refine do_at (i := 42) rfl (by kernel_rfl) (by kernel_rfl) (fun K hK => ?_)
            go_simp
            refine (HB4.out _ _ (HBI.out.below (HY.out.trans (HX.out.mono HY.out.size)))).mono ?_
            rintro e y9 ⟨rfl, bb⟩
            replace HX := Lib.hid (HX.out.trans (bb.mono HX.out.size))
            clear bb
            go_wp2_with fail
            refine hK.out _ _ (KEEPY.out _ HX.out) (fun hHeld => ?_)
            clear hK K
            try go_frame
            refine tk 43 rfl (fun w hSw => by (try dsimp only at hSw); go_simp; try with_reducible rfl) ?_
            go_frame
            refine tk 44 rfl (fun w hSw => by (try dsimp only at hSw); go_simp; try with_reducible rfl) ?_
            go_frame
            refine wpAnyH_done (by kernel_rfl) ?_ _
            clear hHeld
            go_wp2
            go_roundw
            case rel => exact ⟨j + 1, by go_num, Lib.hid HHJ.out, Lib.hid (HY.out.trans (HX.out.mono HY.out.size))⟩
            case measure => simp only [intOf]; have := HHJ.out; omega
          · have g4 : ¬ (j : Int) < 4 := by omega
            go_wp2
            go_roundw
            case rel =>
              refine ⟨i + 1, ?_, Lib.hid ⟨?_, ?_⟩, Lib.hid ?_⟩
              · have := HX0.out
                congr 1
                omega
              · have := HX0.out
                have := H12.out.1
                omega
              · have := HX0.out
                have := H12.out.2
                omega
              · rw [show i + 1 - 1 = i from rfl, ← HTE.out]
                exact ⟨HPS.out.1.trans (HY.out.mono HPS.out.1.size), HPS.out.2.1.below HY.out, va, vc, (HY.out.block (bT + 1) (Array.getElem?_eq_some_iff.1 HRR.out).1).trans HRR.out, HBI.out.below HY.out⟩
            case measure => simp only [intOf]; have := HX0.out; have := H12.out; omega
      · go_wp2_with fail
        refine (works_any _).mono ?_
        rintro e y1 ⟨rfl, bb⟩
        go_wp2
        go_ret
        exact ⟨rfl, HK.out.1.trans (bb.mono HK.out.1.size)⟩
    · go_wp2_with fail
      refine (works_any _).mono ?_
      rintro e y1 ⟨rfl, bb⟩
      go_wp2
      go_ret
      exact ⟨rfl, HK.out.1.trans (bb.mono HK.out.1.size)⟩
end Go.Proofs.Ytmfbknmcmopjnaa.Lab
