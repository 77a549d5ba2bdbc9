/- GridAsks: the walk. -/
import Derived.Test.YtdeahnphcfcfpaaGaRaw
import Derived.Test.YtdeahnphcfcfpaaGaOpen
import Derived.Test.YtdeahnphcfcfpaaGgWorkA
namespace Go.Proofs.Ytdeahnphcfcfpaa.Lab
open Go Go.RowKit

theorem Lie.buts {w w' : World} {b : Nat} {l : List Value} {S : Nat → Prop} (h : Lie w b l) (k : Buts S w w') (hn : ¬ S b) : Lie w' b l := ⟨Nat.lt_of_lt_of_le h.1 k.size, fun j v hj => k.cell (h.2 j v hj) hn⟩
theorem Lie.drew {w : World} {b : Nat} {l : List Value} (h : Lie w b l) : Lie w.drew b l := h
theorem gridM_len (cols : Nat) (LL : List (List Dc)) (O : List Dc) : (gridM cols LL O).length ≤ 8 := by
  have hl : (rowsD (1 + cols % 20) LL O).length = min 8 LL.length := by unfold rowsD; rw [List.length_map, List.length_take]
  have hn := gK_len (c := 1 + cols % 20) (RS := rowsD (1 + cols % 20) LL O) (n := max 1 (min 8 LL.length)) (k := min 8 LL.length) (by omega) (by omega)
  rw [gridM, hn]
  omega
set_option maxHeartbeats 16000000 in
set_option maxRecDepth 100000 in
theorem gasks_core (W : World) (cols : Nat) (lv : Value) (LL : List (List Dc)) (x0 x1 x2 : Int) (aa : Option Addr) (len cap : Nat) (T : Nat → Cel) (hL : LnsIn W lv LL)
    (hcl : len ≤ cap) (hcm : len ≤ maxLen) (_ : cap ≤ maxLen) (hC : 0 < len → ∃ b off, aa = some ⟨b, off, none⟩ ∧ b < W.heap.size ∧ ∀ i, i < len → C14 W b (off + i * 14) (T i)) :
    Calls Try.prog 3 #[.agg #[.int .u8 (cols : Nat), lv], .agg #[.int .i64 x0, .int .i64 x1, .int .i64 x2], .slice aa len cap] W fun e w' => e = .returned (.bool true) ∧ Below W.heap.size W w' := by
  have HLL := Lib.hid hL
  obtain ⟨k0, hk0⟩ : ∃ k, k = min len 30 := ⟨_, rfl⟩
  have HRAWW := Lib.hid (cells_row (W := W) (a := aa) (len := len) (cap := cap) (k := k0) (T := T) (by omega) hcl hcm hC)
  obtain ⟨RW, hRW⟩ : ∃ RW, RW = (List.range k0).map T := ⟨_, rfl⟩
  have HRL := Lib.hid (show RW.length ≤ 1000 by rw [hRW, List.length_map, List.length_range]; omega)
  rw [← hRW] at HRAWW
  have e24 : min (len : Int) 30 = (k0 : Int) := by omega
  have hsl := cells_to aa len cap k0 (by omega)
  obtain ⟨la, lc, hlv, _⟩ := hL
  obtain ⟨ll, hll⟩ : ∃ ll, ll = LL.length := ⟨_, rfl⟩
  rw [← hll] at hlv
  subst hlv
  obtain ⟨w0, hw0⟩ : ∃ X, X = (W.alloc (.cells #[.int .u8 (cols : Nat), .slice la ll lc] 24)).alloc (.cells #[.int .i64 x0, .int .i64 x1, .int .i64 x2] 25) := ⟨_, rfl⟩
  obtain ⟨b3, hb3⟩ : ∃ b, b = W.heap.size := ⟨_, rfl⟩
  obtain ⟨b4, hb4⟩ : ∃ b, b = W.heap.size + 1 := ⟨_, rfl⟩
  have B0 : Below W.heap.size W w0 := by rw [hw0]; exact ((Below.refl _ _).alloc (Nat.le_refl _) _).alloc (by simp) _
  have l3 : Lie w0 b3 [.int .u8 (cols : Nat), .slice la ll lc] := by rw [hw0]; exact (Lie.new W _ _ b3 hb3).below ((Below.refl _ _).alloc (Nat.le_refl _) _)
  have l4 : Lie w0 b4 [.int .i64 x0, .int .i64 x1, .int .i64 x2] := by rw [hw0]; exact Lie.new _ _ _ b4 (by rw [hb4]; simp)
  have HL4 := Lib.hid l4
  have HB0 := Lib.hid B0
  have y0 := l3.at 0 rfl
  have y1 := l3.at 1 rfl
  clear B0 l3 l4 hll hRW hk0 hC hcl hcm
  go_enter Try.func3, Try.ntmps3
  go_upto_region 1 with (fail)
  rw [← hw0, ← hb4, ← hb3]
  clear hw0 hb4 hb3
  go_wp2_with fail
  refine (rgrid_any w0 cols (.slice la ll lc) (.slice none 0 0) LL [] (HLL.out.below HB0.out) (DsIn.nil _ _ _)).mono ?_
  rintro e w1 ⟨v, rfl, hrl, b1⟩
  obtain ⟨loL, hloL⟩ : ∃ l, l = w0.heap.size := ⟨_, rfl⟩
  rw [← hloL] at hrl
  obtain ⟨G, hG⟩ : ∃ G, G = gridM cols LL [] := ⟨_, rfl⟩
  have HGD := Lib.hid (gridM_good cols LL [])
  have HGL := Lib.hid (gridM_len cols LL [])
  rw [← hG] at HGD HGL hrl
  obtain ⟨m, hm⟩ : ∃ m, m = 1 + cols % 20 := ⟨_, rfl⟩
  have HM5 := Lib.hid (show m ≤ 512 by omega)
  rw [← hm] at HGD
  obtain ⟨KL, hkl, hkm⟩ := hrl
  have hkn : KL.length = G.length := by rw [← hkm, List.length_map]
  obtain ⟨n, hn⟩ : ∃ n, n = G.length := ⟨_, rfl⟩
  obtain ⟨gL, vc, rfl, _, hgl⟩ := hkl.here (by have := HGD.out.n0; omega)
  rw [hkn, ← hn] at hkl ⊢
  have HKL := Lib.hid hkl
  have HKM := Lib.hid hkm
  have HN := Lib.hid hn
  have HKN := Lib.hid (show KL.length = n by omega)
  have HD := Lib.hid HGD.out.siz
  have HB1 := Lib.hid (HB0.out.trans (b1.mono HB0.out.size))
  have HL41 := Lib.hid (HL4.out.below b1)
  have HLO1 := Lib.hid (show loL ≤ w1.heap.size by rw [hloL]; exact b1.size)
  clear hkl hkm hn hkn hm hG b1 y0 y1 HLL HL4 HB0 hgl hloL
  obtain ⟨w2, hw2⟩ : ∃ X, X = w1.alloc (.cells #[.slice (some ⟨gL, 0, none⟩) n vc] 29) := ⟨_, rfl⟩
  obtain ⟨b7, hb7⟩ : ∃ b, b = w1.heap.size := ⟨_, rfl⟩
  have b2 : Below w1.heap.size w1 w2 := by rw [hw2]; exact (Below.refl _ _).alloc (Nat.le_refl _) _
  have HL7 := Lib.hid (show Lie w2 b7 [.slice (some ⟨gL, 0, none⟩) n vc] by rw [hw2]; exact Lie.new w1 _ _ b7 hb7)
  replace HKL := Lib.hid (HKL.out.below b2)
  replace HL41 := Lib.hid (HL41.out.below b2)
  replace HLO1 := Lib.hid (Nat.le_trans HLO1.out b2.size)
  replace HB1 := Lib.hid (HB1.out.trans (b2.mono HB1.out.size))
  clear b2
  go_upto_region 2 with (fail)
  rw [← hw2, ← hb7]
  clear hw2 hb7
  have y7 := HL7.out.at 0 rfl
  go_wp2_with fail
  refine (of_any w2 loL m (.slice (some ⟨gL, 0, none⟩) n vc) G ⟨KL, HKL.out, HKM.out⟩ HGD.out ⟨by have := HGL.out; omega, HM5.out⟩).mono ?_
  rintro e w3 ⟨p, rb, c, rfl, gg, b3'⟩
  obtain ⟨lo, hlo⟩ : ∃ l, l = w2.heap.size := ⟨_, rfl⟩
  rw [← hlo] at gg
  have HG := Lib.hid gg
  replace HL7 := Lib.hid (HL7.out.below b3')
  replace HKL := Lib.hid (HKL.out.below b3')
  replace HL41 := Lib.hid (HL41.out.below b3')
  replace HLO1 := Lib.hid (Nat.le_trans HLO1.out b3'.size)
  replace HB1 := Lib.hid (HB1.out.trans (b3'.mono HB1.out.size))
  clear gg b3' hlo y7
  obtain ⟨a40, ha40⟩ : ∃ r, r = Int.tmod x0 40 := ⟨_, rfl⟩
  have wa40 : IntKind.i64.wrap a40 = a40 := by rw [ha40, IntKind.wrap_i64]; have := Int.tmod_lt_of_pos x0 (show (0 : Int) < 40 by decide); have := Int.lt_tmod_of_pos x0 (show (0 : Int) < 40 by decide); omega
  have ea40 := ha40.symm
  clear ha40
  obtain ⟨b40, hb40⟩ : ∃ r, r = Int.tmod x1 40 := ⟨_, rfl⟩
  have wb40 : IntKind.i64.wrap b40 = b40 := by rw [hb40, IntKind.wrap_i64]; have := Int.tmod_lt_of_pos x1 (show (0 : Int) < 40 by decide); have := Int.lt_tmod_of_pos x1 (show (0 : Int) < 40 by decide); omega
  have eb40 := hb40.symm
  clear hb40
  obtain ⟨r1, hr1⟩ : ∃ r, r = Int.tmod x0 10 := ⟨_, rfl⟩
  have wr1 : IntKind.i64.wrap r1 = r1 := by rw [hr1, IntKind.wrap_i64]; have := Int.tmod_lt_of_pos x0 (show (0 : Int) < 10 by decide); have := Int.lt_tmod_of_pos x0 (show (0 : Int) < 10 by decide); omega
  have er1 := hr1.symm
  clear hr1
  obtain ⟨r2, hr2⟩ : ∃ r, r = Int.tmod x1 24 := ⟨_, rfl⟩
  have wr2 : IntKind.i64.wrap r2 = r2 := by rw [hr2, IntKind.wrap_i64]; have := Int.tmod_lt_of_pos x1 (show (0 : Int) < 24 by decide); have := Int.lt_tmod_of_pos x1 (show (0 : Int) < 24 by decide); omega
  have er2 := hr2.symm
  clear hr2
  obtain ⟨r3, hr3⟩ : ∃ r, r = Int.tmod x2 20 := ⟨_, rfl⟩
  have wr3 : IntKind.i64.wrap r3 = r3 := by rw [hr3, IntKind.wrap_i64]; have := Int.tmod_lt_of_pos x2 (show (0 : Int) < 20 by decide); have := Int.lt_tmod_of_pos x2 (show (0 : Int) < 20 by decide); omega
  have er3 := hr3.symm
  clear hr3
  have z0 := HL41.out.at 0 rfl
  have z1 := HL41.out.at 1 rfl
  go_wp2_with fail
  refine (gnew_or w3 a40 b40 (cA 113)).mono ?_
  rintro e w4 ⟨qs, rfl, _, hsm, b4'⟩
  have HSM := Lib.hid hsm
  have HB5 := Lib.hid (HB1.out.trans (b4'.mono HB1.out.size))
  replace HL7 := Lib.hid (HL7.out.below b4')
  replace HKL := Lib.hid (HKL.out.below b4')
  replace HL41 := Lib.hid (HL41.out.below b4')
  replace HG := Lib.hid (HG.out.below b4')
  replace HLO1 := Lib.hid (Nat.le_trans HLO1.out b4'.size)
  clear hsm b4' z0 z1 HB1 HGL
  have HXB := Lib.hid (show Below w4.heap.size w4 w4 from Below.refl _ _)
  obtain ⟨cb0, hcb0⟩ : ∃ b, b = canB x0 1 := ⟨_, rfl⟩
  obtain ⟨cb2, hcb2⟩ : ∃ b, b = canB 1 x1 := ⟨_, rfl⟩
  have HC0 := Lib.hid hcb0.symm
  have HC2 := Lib.hid hcb2.symm
  have hnb0 : ((!cb0) == cb0) = false := by cases cb0 <;> rfl
  have hnb2 : ((!cb2) == cb2) = false := by cases cb2 <;> rfl
  have HSK := Lib.hid (show ∀ W, Below w4.heap.size w4 W → (fun wx => wx.cell? ⟨b4, 0, none⟩ = some (.int .i64 x0) ∧ wx.cell? ⟨b4, 1, none⟩ = some (.int .i64 x1)) W from fun W kb => ⟨(HL41.out.below kb).at 0 rfl, (HL41.out.below kb).at 1 rfl⟩)
  clear hcb0 hcb2
  go_upto_region 5 with (fail)
  refine wp_region_held_drew (S := fun wx => wx.cell? ⟨b4, 0, none⟩ = some (.int .i64 x0) ∧ wx.cell? ⟨b4, 1, none⟩ = some (.int .i64 x1)) (by kernel_rfl) ?_ (fun hHeld => ?_)
  · exact HSK.out _ ((Below.refl _ _).drew)
  obtain ⟨wd, hwd⟩ : ∃ X, X = w4.drew := ⟨_, rfl⟩
  have HX := Lib.hid (show Below w4.heap.size w4 wd by rw [hwd]; exact (Below.refl _ _).drew)
  replace hHeld := HSK.out _ HX.out
  rw [← hwd]
  clear hwd
  refine tk 0 rfl (fun w hSw => by (try dsimp only at hSw); go_simp; try with_reducible rfl) ?_
  go_frame
  refine tk 1 rfl (fun w hSw => by (try dsimp only at hSw); go_simp; try with_reducible rfl) ?_
  go_frame
  refine tk 2 rfl (fun w hSw => by (try dsimp only at hSw); go_simp; try with_reducible rfl) ?_
  go_frame
  refine tk 5 rfl (fun w hSw => by (try dsimp only at hSw); go_simp; try with_reducible rfl) ?_
  go_frame
  refine tk 6 rfl (fun w hSw => by (try dsimp only at hSw); go_simp; try with_reducible rfl) ?_
  go_frame
  refine do_at (i := 3) rfl (by kernel_rfl) (by kernel_rfl) (fun K hK => ?_)
  go_simp
  refine (gnew_or wd x0 1 Cel.z).mono ?_
  rintro e w50 ⟨q0, rfl, hq0, _, bz⟩
  rw [HC0.out] at hq0
  replace HX := Lib.hid (HX.out.trans (bz.mono HX.out.size))
  clear bz
  go_wp2_with fail
  refine hK.out _ _ ?_ (fun hHeld => ?_)
  · exact HSK.out _ HX.out
  clear hK K
  try go_frame
  refine tk 4 rfl (fun w hSw => by (try dsimp only at hSw); go_simp; try with_reducible rfl) ?_
  go_frame
  refine do_at (i := 7) rfl (by kernel_rfl) (by kernel_rfl) (fun K hK => ?_)
  go_simp
  refine (may_any w50 x0 1).mono ?_
  rintro e w51 ⟨rfl, rfl⟩
  rw [HC0.out]
  go_wp2_with fail
  refine hK.out _ _ ?_ (fun hHeld => ?_)
  · exact HSK.out _ HX.out
  clear hK K
  try go_frame
  refine tk 8 rfl (fun w hSw => by (try dsimp only at hSw); go_simp; try with_reducible rfl) ?_
  go_frame
  refine tk 9 rfl (fun w hSw => by (try dsimp only at hSw); go_simp; try with_reducible rfl) ?_
  go_frame
  refine tk 10 rfl (fun w hSw => by (try dsimp only at hSw); go_simp; try with_reducible rfl) ?_
  go_frame
  refine tk 11 rfl (fun w hSw => by (try dsimp only at hSw); go_simp; try with_reducible rfl) ?_
  go_frame
  refine tk 12 rfl (fun w hSw => by (try dsimp only at hSw); go_simp; try with_reducible rfl) ?_
  go_frame
  refine tk 15 rfl (fun w hSw => by (try dsimp only at hSw); go_simp; try with_reducible rfl) ?_
  go_frame
  refine tk 16 rfl (fun w hSw => by (try dsimp only at hSw); go_simp; try with_reducible rfl) ?_
  go_frame
  refine do_at (i := 13) rfl (by kernel_rfl) (by kernel_rfl) (fun K hK => ?_)
  go_simp
  refine (gnew_or w50 1 x1 Cel.z).mono ?_
  rintro e w52 ⟨q2, rfl, hq2, _, bz⟩
  rw [HC2.out] at hq2
  replace HX := Lib.hid (HX.out.trans (bz.mono HX.out.size))
  clear bz
  go_wp2_with fail
  refine hK.out _ _ ?_ (fun hHeld => ?_)
  · exact HSK.out _ HX.out
  clear hK K
  try go_frame
  refine tk 14 rfl (fun w hSw => by (try dsimp only at hSw); go_simp; try with_reducible rfl) ?_
  go_frame
  refine do_at (i := 17) rfl (by kernel_rfl) (by kernel_rfl) (fun K hK => ?_)
  go_simp
  refine (may_any w52 1 x1).mono ?_
  rintro e w53 ⟨rfl, rfl⟩
  rw [HC2.out]
  go_wp2_with fail
  refine hK.out _ _ ?_ (fun hHeld => ?_)
  · exact HSK.out _ HX.out
  clear hK K
  try go_frame
  refine tk 18 rfl (fun w hSw => by (try dsimp only at hSw); go_simp; try with_reducible rfl) ?_
  go_frame
  refine tk 19 rfl (fun w hSw => by (try dsimp only at hSw); go_simp; try with_reducible rfl) ?_
  go_frame
  refine tk 20 rfl (fun w hSw => by (try dsimp only at hSw); go_simp; try with_reducible rfl) ?_
  go_frame
  refine tk 21 rfl (fun w hSw => by (try dsimp only at hSw); go_simp; try with_reducible rfl) ?_
  go_frame
  refine tk 23 rfl (fun w hSw => by (try dsimp only at hSw); go_simp; try with_reducible rfl) ?_
  go_frame
  refine tk 24 rfl (fun w hSw => by (try dsimp only at hSw); go_simp; try with_reducible rfl) ?_
  go_frame
  refine tk 25 rfl (fun w hSw => by (try dsimp only at hSw); go_simp; try with_reducible rfl) ?_
  go_frame
  refine tk 26 rfl (fun w hSw => by (try dsimp only at hSw); go_simp; try with_reducible rfl) ?_
  go_frame
  refine tk 27 rfl (fun w hSw => by (try dsimp only at hSw); go_simp; try with_reducible rfl) ?_
  go_frame
  refine tk 28 rfl (fun w hSw => by (try dsimp only at hSw); go_simp; try with_reducible rfl) ?_
  go_frame
  refine tk 29 rfl (fun w hSw => by (try dsimp only at hSw); go_simp; try with_reducible rfl) ?_
  go_frame
  refine do_at (i := 22) rfl (by kernel_rfl) (by kernel_rfl) (fun K hK => ?_)
  go_simp
  refine (rows_small w52 qs a40 b40 (cA 113) (HSM.out.below HX.out)).mono ?_
  rintro e w54 ⟨vs, rfl, hvs, bz⟩
  have HVS := Lib.hid hvs
  clear hvs
  replace HX := Lib.hid (HX.out.trans (bz.mono HX.out.size))
  clear bz
  go_wp2_with fail
  refine hK.out _ _ ?_ (fun hHeld => ?_)
  · exact HSK.out _ HX.out
  clear hK K
  try go_frame
  refine do_at (i := 30) rfl (by kernel_rfl) (by kernel_rfl) (fun K hK => ?_)
  go_simp
  refine (rgnew_or w54 a40 b40 (cA 113)).mono ?_
  rintro e w55 ⟨vr, rfl, hvr, bz⟩
  have HVR := Lib.hid hvr
  have hfr : ∀ W : World, (Instr.field 29 (.agg #[vr]) 0).run Try.prog W = .ok vr W := fun _ => by kernel_rfl
  replace HVS := Lib.hid (HVS.out.below bz)
  clear hvr
  replace HX := Lib.hid (HX.out.trans (bz.mono HX.out.size))
  clear bz
  go_wp2_with fail
  refine hK.out _ _ ?_ (fun hHeld => ?_)
  · exact HSK.out _ HX.out
  clear hK K
  try go_frame
  refine tk 31 rfl (fun w hSw => by (try dsimp only at hSw); go_simp; try with_reducible rfl) ?_
  go_frame
  refine do_at (i := 32) rfl (by kernel_rfl) (by kernel_rfl) (fun K hK => ?_)
  go_simp
  refine (rsames_yes w55 _ _ vs vr _ HVS.out HVR.out (small_len _ _ _).1 (small_len _ _ _).2).mono ?_
  rintro e w56 ⟨rfl, bz⟩
  replace HX := Lib.hid (HX.out.trans (bz.mono HX.out.size))
  clear bz
  go_wp2_with fail
  refine hK.out _ _ ?_ (fun hHeld => ?_)
  · exact HSK.out _ HX.out
  clear hK K
  try go_frame
  refine tk 33 rfl (fun w hSw => by (try dsimp only at hSw); go_simp; try with_reducible rfl) ?_
  go_frame
  refine tk 34 rfl (fun w hSw => by (try dsimp only at hSw); go_simp; try with_reducible rfl) ?_
  go_frame
  refine wpAnyH_done (by kernel_rfl) ?_ _
  have HB6 := Lib.hid (HB5.out.trans (HX.out.mono HB5.out.size))
  have HX6 := Lib.hid (HXB.out.trans (HX.out.mono HXB.out.size))
  clear hHeld HSK HVS HVR HX HB5 HXB hfr
  clear hnb0 hnb2 HSM
  replace HL7 := Lib.hid (HL7.out.below HX6.out)
  replace HKL := Lib.hid (HKL.out.below HX6.out)
  replace HL41 := Lib.hid (HL41.out.below HX6.out)
  replace HG := Lib.hid (HG.out.below HX6.out)
  replace HLO1 := Lib.hid (Nat.le_trans HLO1.out HX6.out.size)
  have HRAW := Lib.hid (HRAWW.out.below HB6.out)
  have HM0 := Lib.hid (show 0 < (hdAt KL 0).R.length by rw [rowG_hd, HKM.out, HD.out.len HD.out.n0]; exact HD.out.m0)
  have HN0 := Lib.hid (show 0 < n by have := HD.out.n0; have := HN.out; omega)
  obtain ⟨xa, xc, hx0⟩ : ∃ xa xc, w56.cell? ⟨gL, 0, none⟩ = some (.slice xa m xc) := by
    have hk : 0 < KL.length := by have := HKN.out; have := HN0.out; omega
    have h1 := HKL.out.at hk
    have h2 : KL[0].R.length = m := by have := HD.out.len HD.out.n0; rw [← HKM.out, ← rowG_hd, hdAt_eq hk] at this; exact this
    rw [hdV, h2] at h1
    exact ⟨_, _, h1⟩
  have HHD := Lib.hid (show ∀ W, Below w56.heap.size w56 W → W.cell? ⟨gL, 0, none⟩ = some (.slice xa m xc) ∧ gL < W.heap.size from fun W kb => by
    have hg : gL < w56.heap.size := World.block_lt_of_cell? (a := ⟨gL, 0, none⟩) w56 hx0
    exact ⟨(kb.cell (p := ⟨gL, 0, none⟩) hg).trans hx0, Nat.lt_of_lt_of_le hg kb.size⟩)
  have HT0 := Lib.hid (show Below w56.heap.size w56 w56 from Below.refl _ _)
  clear hx0 HX6 HRAWW
  have z0 := HL41.out.at 0 rfl
  have z1 := HL41.out.at 1 rfl
  have z2 := HL41.out.at 2 rfl
  have HIX := Lib.hid (show ∀ k : Nat, k < 3 → ∃ pr pc : Int, ∀ W : World, (Instr.index 49 (.agg #[.int .i64 x0, .int .i64 x1, .int .i64 r1, .int .i64 r2, .int .i64 0, .int .i64 r3]) (.int .i64 (k : Nat))).run Try.prog W = .ok (.agg #[.int .i64 pr, .int .i64 pc]) W from fun k hk => by
    match k, hk with
    | 0, _ => exact ⟨x0, x1, fun _ => by kernel_rfl⟩
    | 1, _ => exact ⟨r1, r2, fun _ => by kernel_rfl⟩
    | 2, _ => exact ⟨0, r3, fun _ => by kernel_rfl⟩)
  obtain ⟨av, hav⟩ : ∃ v : Value, v = .agg #[.int .i64 x0, .int .i64 x1, .int .i64 r1, .int .i64 r2, .int .i64 0, .int .i64 r3] := ⟨_, rfl⟩
  rw [← hav] at HIX
  go_upto_region 8 with (fail)
  rw [← hav]
  clear hav z0 z1 z2 ea40 wa40 eb40 wb40 er1 wr1 er2 wr2 er3 wr3 e24 hsl
  go_loopg [86] 3 (fun Gs i wr => ∃ (k : Nat), i = .int .i64 k ∧ k ≤ 3 ∧ 3 - k ≤ Gs ∧ Hid (Below w56.heap.size w56 wr))
  case atStart => exact ⟨0, rfl, Nat.zero_le _, Nat.sub_le _ _, HT0⟩
  case round =>
    obtain ⟨k, rfl, hkn, hgk, HTW⟩ := hrel
    clear HT0
    by_cases hlt : k < 3
    · have HLT := Lib.hid (show k + 1 ≤ 3 from hlt)
      obtain ⟨pr, pc, hix⟩ := HIX.out k hlt
      replace HG := Lib.hid (HG.out.below HTW.out)
      replace HL7 := Lib.hid (HL7.out.below HTW.out)
      replace HKL := Lib.hid (HKL.out.below HTW.out)
      replace HRAW := Lib.hid (HRAW.out.below HTW.out)
      replace HHD := Lib.hid (show ∀ W, Below wr.heap.size wr W → W.cell? ⟨gL, 0, none⟩ = some (.slice xa m xc) ∧ gL < W.heap.size from fun W kb => HHD.out W (HTW.out.trans (kb.mono HTW.out.size)))
      have HLOL := Lib.hid (Nat.le_trans HLO1.out HTW.out.size)
      have hn0 : 0 < n := HN0.out
      obtain ⟨w10, hw10⟩ : ∃ X, X = wr.alloc (.cells #[.int .i64 pr, .int .i64 pc] 48) := ⟨_, rfl⟩
      obtain ⟨b11, hb11⟩ : ∃ b, b = wr.heap.size := ⟨_, rfl⟩
      have HT := Lib.hid (show Below wr.heap.size wr w10 by rw [hw10]; exact (Below.refl _ _).alloc (Nat.le_refl _) _)
      have HL11 := Lib.hid (show Lie w10 b11 [.int .i64 pr, .int .i64 pc] by rw [hw10]; exact Lie.new wr _ _ b11 hb11)
      go_wp2_with fail
      rw [← hw10, ← hb11]
      clear hw10 hb11 hix
      refine (gat_any w10 lo p rb c m G pr pc (HG.out.below HT.out) HD.out).mono ?_
      rintro e w11 ⟨rfl, bz⟩
      obtain ⟨c1, hc1⟩ : ∃ x, x = atM G m pr pc := ⟨_, rfl⟩
      rw [← hc1, ← HN.out]
      have HC1 := Lib.hid hc1
      replace HL11 := Lib.hid (HL11.out.below bz)
      replace HT := Lib.hid (HT.out.trans (bz.mono HT.out.size))
      clear bz hc1
      obtain ⟨w12, hw12⟩ : ∃ X, X = (w11.alloc (.cells #[.int .i32 c1.ru, .int .i32 c1.m0, .int .i32 c1.m1, .int .u8 c1.k, .int .u8 c1.a.fg.k, .int .u8 c1.a.fg.r, .int .u8 c1.a.fg.g, .int .u8 c1.a.fg.b, .int .u8 c1.a.bg.k, .int .u8 c1.a.bg.r, .int .u8 c1.a.bg.g, .int .u8 c1.a.bg.b, .int .u16 (c1.a.fl : Nat), .int .u8 c1.l] 42)).alloc (.cells #[.int .i32 0, .int .i32 0, .int .i32 0, .int .u8 0, .int .u8 0, .int .u8 0, .int .u8 0, .int .u8 0, .int .u8 0, .int .u8 0, .int .u8 0, .int .u8 0, .int .u16 0, .int .u8 0] 42) := ⟨_, rfl⟩
      obtain ⟨b12, hb12⟩ : ∃ b, b = w11.heap.size := ⟨_, rfl⟩
      obtain ⟨b14, hb14⟩ : ∃ b, b = w11.heap.size + 1 := ⟨_, rfl⟩
      have bz : Below w11.heap.size w11 w12 := by rw [hw12]; exact ((Below.refl _ _).alloc (Nat.le_refl _) _).alloc (by simp) _
      have HL12 := Lib.hid (show Lie w12 b12 [.int .i32 c1.ru, .int .i32 c1.m0, .int .i32 c1.m1, .int .u8 c1.k, .int .u8 c1.a.fg.k, .int .u8 c1.a.fg.r, .int .u8 c1.a.fg.g, .int .u8 c1.a.fg.b, .int .u8 c1.a.bg.k, .int .u8 c1.a.bg.r, .int .u8 c1.a.bg.g, .int .u8 c1.a.bg.b, .int .u16 (c1.a.fl : Nat), .int .u8 c1.l] by rw [hw12]; exact (Lie.new w11 _ _ b12 hb12).below ((Below.refl _ _).alloc (Nat.le_refl _) _))
      have HV14 := Lib.hid (show w12.heap[b14]? = some (.cells #[.int .i32 0, .int .i32 0, .int .i32 0, .int .u8 0, .int .u8 0, .int .u8 0, .int .u8 0, .int .u8 0, .int .u8 0, .int .u8 0, .int .u8 0, .int .u8 0, .int .u16 0, .int .u8 0] 42 (0, 0)) by
        have := World.alloc_heap_new (w11.alloc (.cells #[.int .i32 c1.ru, .int .i32 c1.m0, .int .i32 c1.m1, .int .u8 c1.k, .int .u8 c1.a.fg.k, .int .u8 c1.a.fg.r, .int .u8 c1.a.fg.g, .int .u8 c1.a.fg.b, .int .u8 c1.a.bg.k, .int .u8 c1.a.bg.r, .int .u8 c1.a.bg.g, .int .u8 c1.a.bg.b, .int .u16 (c1.a.fl : Nat), .int .u8 c1.l] 42)) (.cells #[.int .i32 0, .int .i32 0, .int .i32 0, .int .u8 0, .int .u8 0, .int .u8 0, .int .u8 0, .int .u8 0, .int .u8 0, .int .u8 0, .int .u8 0, .int .u8 0, .int .u16 0, .int .u8 0] 42)
        rw [World.size_alloc] at this
        rw [hw12, hb14]
        exact this)
      have HNE := Lib.hid (show b12 ≠ b14 by omega)
      have HNE1 := Lib.hid (show b11 ≠ b14 by have := HL11.out.1; omega)
      have HV14B := Lib.hid (show wr.heap.size ≤ b14 by have := HT.out.size; omega)
      replace HL11 := Lib.hid (HL11.out.below bz)
      replace HT := Lib.hid (HT.out.trans (bz.mono HT.out.size))
      clear bz
      go_upto_region 12 with (fail)
      rw [← hw12, ← hb14, ← hb12]
      clear hw12 hb14 hb12
      cases hIR : isInB pr n with
      | true =>
        cases hIC : isInB pc m with
        | true =>
          as_aux_lemma =>
            obtain ⟨i, ei, hi⟩ := isInB_true hIR
            obtain ⟨j, ej, hj⟩ := isInB_true hIC
            subst ei ej
            have HIR := Lib.hid hIR
            have HIP := Lib.hid (show (isInB (i : Nat) n && isInB (j : Nat) m) = true by rw [hIR, hIC]; rfl)
            have HC1E := Lib.hid (show c1 = gc (rowG G i) j by rw [HC1.out]; unfold atM; rw [← HN.out, if_pos HIP.out, Int.toNat_natCast, Int.toNat_natCast])
            have hid1 : decide ((i : Int) < (n : Int)) = true := by simp; exact hi
            have hjd1 : decide ((j : Int) < (m : Int)) = true := by simp; exact hj
            clear hIR hIC
            have y7 := (HL7.out.below HT.out).at 0 rfl
            have y0 := HL11.out.at 0 rfl
            have y1 := HL11.out.at 1 rfl
            go_wp2_with fail
            refine (Is_any w12 gL n vc m xc xa (i : Nat) (j : Nat) (HHD.out _ HT.out).1 (HHD.out _ HT.out).2).mono ?_
            rintro e w13 ⟨rfl, bz⟩
            rw [HIP.out]
            replace HL11 := Lib.hid (HL11.out.below bz)
            replace HL12 := Lib.hid (HL12.out.below bz)
            replace HV14 := Lib.hid ((bz.block b14 (Array.getElem?_eq_some_iff.1 HV14.out).1).trans HV14.out)
            replace HT := Lib.hid (HT.out.trans (bz.mono HT.out.size))
            clear bz y7 y0 y1
            have hik : i < KL.length := by have := HKN.out; omega
            obtain ⟨y, hy⟩ : ∃ y, y = KL[i] := ⟨_, rfl⟩
            have hyR : y.R = rowG G i := by rw [hy, ← hdAt_eq hik, rowG_hd, HKM.out]
            have hyl : y.R.length = m := by rw [hyR]; exact HD.out.len (by have := HN.out; omega)
            obtain ⟨g1, o1, c1', e1', hS13⟩ : ∃ g o cc, hdV y = .slice (some ⟨g, o, none⟩) m cc ∧ ∀ W, Below wr.heap.size wr W → C14 W g (o + j * 14) c1 := ⟨y.b, 0, y.c, by rw [hdV, hyl], fun W kb => by
              obtain ⟨g, o, cc, e, _, _, h⟩ := (show RowIn W (hdV y) y.R by rw [hy]; exact ((HKL.out.below kb).row hik).row).open (by omega)
              injection e with e _ _
              injection e with e
              injection e with e1 e2
              subst e1 e2
              have := h j (by omega)
              rw [hyR, ← HC1E.out] at this
              exact this⟩
            have HS13 := Lib.hid (show ∀ W, Below wr.heap.size wr W → (fun wx => wx.cell? ⟨gL, i, none⟩ = some (.slice (some ⟨g1, o1, none⟩) m c1') ∧ wx.cell? ⟨g1, o1 + j * 14, none⟩ = some (.int .i32 c1.ru) ∧ wx.cell? ⟨g1, o1 + j * 14 + 1, none⟩ = some (.int .i32 c1.m0) ∧ wx.cell? ⟨g1, o1 + j * 14 + 2, none⟩ = some (.int .i32 c1.m1) ∧ wx.cell? ⟨g1, o1 + j * 14 + 3, none⟩ = some (.int .u8 c1.k) ∧ wx.cell? ⟨g1, o1 + j * 14 + 4, none⟩ = some (.int .u8 c1.a.fg.k) ∧ wx.cell? ⟨g1, o1 + j * 14 + 5, none⟩ = some (.int .u8 c1.a.fg.r) ∧ wx.cell? ⟨g1, o1 + j * 14 + 6, none⟩ = some (.int .u8 c1.a.fg.g) ∧ wx.cell? ⟨g1, o1 + j * 14 + 7, none⟩ = some (.int .u8 c1.a.fg.b) ∧ wx.cell? ⟨g1, o1 + j * 14 + 8, none⟩ = some (.int .u8 c1.a.bg.k) ∧ wx.cell? ⟨g1, o1 + j * 14 + 9, none⟩ = some (.int .u8 c1.a.bg.r) ∧ wx.cell? ⟨g1, o1 + j * 14 + 10, none⟩ = some (.int .u8 c1.a.bg.g) ∧ wx.cell? ⟨g1, o1 + j * 14 + 11, none⟩ = some (.int .u8 c1.a.bg.b) ∧ wx.cell? ⟨g1, o1 + j * 14 + 12, none⟩ = some (.int .u16 (c1.a.fl : Nat)) ∧ wx.cell? ⟨g1, o1 + j * 14 + 13, none⟩ = some (.int .u8 c1.l)) W from fun W kb => by
              have h1 := (HKL.out.below kb).at hik
              rw [← hy, e1'] at h1
              exact ⟨h1, hS13 W kb⟩)
            clear hy hyR hyl e1' hS13 hik
            go_upto_region 13 with (fail)
            refine wp_region_held_drew (S := fun wx => wx.cell? ⟨b7, 0, none⟩ = some (.slice (some ⟨gL, 0, none⟩) n vc) ∧ wx.cell? ⟨b11, 0, none⟩ = some (.int .i64 (i : Nat)) ∧ wx.cell? ⟨b11, 1, none⟩ = some (.int .i64 (j : Nat)) ∧ wx.cell? ⟨gL, i, none⟩ = some (.slice (some ⟨g1, o1, none⟩) m c1') ∧ wx.cell? ⟨g1, o1 + j * 14, none⟩ = some (.int .i32 c1.ru) ∧ wx.cell? ⟨g1, o1 + j * 14 + 1, none⟩ = some (.int .i32 c1.m0) ∧ wx.cell? ⟨g1, o1 + j * 14 + 2, none⟩ = some (.int .i32 c1.m1) ∧ wx.cell? ⟨g1, o1 + j * 14 + 3, none⟩ = some (.int .u8 c1.k) ∧ wx.cell? ⟨g1, o1 + j * 14 + 4, none⟩ = some (.int .u8 c1.a.fg.k) ∧ wx.cell? ⟨g1, o1 + j * 14 + 5, none⟩ = some (.int .u8 c1.a.fg.r) ∧ wx.cell? ⟨g1, o1 + j * 14 + 6, none⟩ = some (.int .u8 c1.a.fg.g) ∧ wx.cell? ⟨g1, o1 + j * 14 + 7, none⟩ = some (.int .u8 c1.a.fg.b) ∧ wx.cell? ⟨g1, o1 + j * 14 + 8, none⟩ = some (.int .u8 c1.a.bg.k) ∧ wx.cell? ⟨g1, o1 + j * 14 + 9, none⟩ = some (.int .u8 c1.a.bg.r) ∧ wx.cell? ⟨g1, o1 + j * 14 + 10, none⟩ = some (.int .u8 c1.a.bg.g) ∧ wx.cell? ⟨g1, o1 + j * 14 + 11, none⟩ = some (.int .u8 c1.a.bg.b) ∧ wx.cell? ⟨g1, o1 + j * 14 + 12, none⟩ = some (.int .u16 (c1.a.fl : Nat)) ∧ wx.cell? ⟨g1, o1 + j * 14 + 13, none⟩ = some (.int .u8 c1.l)) (by kernel_rfl) ?_ (fun hHeld => ?_)
            · exact ⟨(HL7.out.below HT.out.drew).at 0 rfl, HL11.out.drew.at 0 rfl, HL11.out.drew.at 1 rfl, HS13.out _ HT.out.drew⟩
            obtain ⟨wd, hwd⟩ : ∃ X, X = w13.drew := ⟨_, rfl⟩
            have bd : Below w13.heap.size w13 wd := by rw [hwd]; exact (Below.refl _ _).drew
            have HX := Lib.hid (HT.out.trans (bd.mono HT.out.size))
            have HV14X := Lib.hid ((bd.block b14 (Array.getElem?_eq_some_iff.1 HV14.out).1).trans HV14.out)
            have HLX := Lib.hid (HL12.out.below bd)
            have HLP := Lib.hid (HL11.out.below bd)
            clear HL12 HL11 HT
            replace hHeld := (show (fun wx => wx.cell? ⟨b7, 0, none⟩ = some (.slice (some ⟨gL, 0, none⟩) n vc) ∧ wx.cell? ⟨b11, 0, none⟩ = some (.int .i64 (i : Nat)) ∧ wx.cell? ⟨b11, 1, none⟩ = some (.int .i64 (j : Nat)) ∧ wx.cell? ⟨gL, i, none⟩ = some (.slice (some ⟨g1, o1, none⟩) m c1') ∧ wx.cell? ⟨g1, o1 + j * 14, none⟩ = some (.int .i32 c1.ru) ∧ wx.cell? ⟨g1, o1 + j * 14 + 1, none⟩ = some (.int .i32 c1.m0) ∧ wx.cell? ⟨g1, o1 + j * 14 + 2, none⟩ = some (.int .i32 c1.m1) ∧ wx.cell? ⟨g1, o1 + j * 14 + 3, none⟩ = some (.int .u8 c1.k) ∧ wx.cell? ⟨g1, o1 + j * 14 + 4, none⟩ = some (.int .u8 c1.a.fg.k) ∧ wx.cell? ⟨g1, o1 + j * 14 + 5, none⟩ = some (.int .u8 c1.a.fg.r) ∧ wx.cell? ⟨g1, o1 + j * 14 + 6, none⟩ = some (.int .u8 c1.a.fg.g) ∧ wx.cell? ⟨g1, o1 + j * 14 + 7, none⟩ = some (.int .u8 c1.a.fg.b) ∧ wx.cell? ⟨g1, o1 + j * 14 + 8, none⟩ = some (.int .u8 c1.a.bg.k) ∧ wx.cell? ⟨g1, o1 + j * 14 + 9, none⟩ = some (.int .u8 c1.a.bg.r) ∧ wx.cell? ⟨g1, o1 + j * 14 + 10, none⟩ = some (.int .u8 c1.a.bg.g) ∧ wx.cell? ⟨g1, o1 + j * 14 + 11, none⟩ = some (.int .u8 c1.a.bg.b) ∧ wx.cell? ⟨g1, o1 + j * 14 + 12, none⟩ = some (.int .u16 (c1.a.fl : Nat)) ∧ wx.cell? ⟨g1, o1 + j * 14 + 13, none⟩ = some (.int .u8 c1.l)) wd from ⟨(HL7.out.below HX.out).at 0 rfl, HLP.out.at 0 rfl, HLP.out.at 1 rfl, HS13.out _ HX.out⟩)
            rw [← hwd]
            clear hwd bd
            refine tk 0 rfl (fun w hSw => by (try dsimp only at hSw); go_simp; try with_reducible rfl) ?_
            go_frame
            refine tk 1 rfl (fun w hSw => by (try dsimp only at hSw); go_simp; try with_reducible rfl) ?_
            go_frame
            refine tk 2 rfl (fun w hSw => by (try dsimp only at hSw); go_simp; try with_reducible rfl) ?_
            go_frame
            refine tk 3 rfl (fun w hSw => by (try dsimp only at hSw); go_simp; try with_reducible rfl) ?_
            go_frame
            refine tk 4 rfl (fun w hSw => by (try dsimp only at hSw); go_simp; try with_reducible rfl) ?_
            go_frame
            refine tk 5 rfl (fun w hSw => by (try dsimp only at hSw); go_simp; try with_reducible rfl) ?_
            go_frame
            refine tk 6 rfl (fun w hSw => by (try dsimp only at hSw); go_simp; try with_reducible rfl) ?_
            go_frame
            refine tk 7 rfl (fun w hSw => by (try dsimp only at hSw); go_simp; try with_reducible rfl) ?_
            go_frame
            refine tk 8 rfl (fun w hSw => by (try dsimp only at hSw); go_simp; try with_reducible rfl) ?_
            go_frame
            refine tk 9 rfl (fun w hSw => by (try dsimp only at hSw); go_simp; try with_reducible rfl) ?_
            go_frame
            refine do_at (i := 10) rfl (by kernel_rfl) (by kernel_rfl) (fun K hK => ?_)
            have HQ := Lib.hid (setRow_heap wd b14 _ #[.int .i32 c1.ru, .int .i32 c1.m0, .int .i32 c1.m1, .int .u8 c1.k, .int .u8 c1.a.fg.k, .int .u8 c1.a.fg.r, .int .u8 c1.a.fg.g, .int .u8 c1.a.fg.b, .int .u8 c1.a.bg.k, .int .u8 c1.a.bg.r, .int .u8 c1.a.bg.g, .int .u8 c1.a.bg.b, .int .u16 (c1.a.fl : Nat), .int .u8 c1.l] _ _ HV14X.out)
            have HQB := Lib.hid (show Below wr.heap.size wr (wd.setRow b14 #[.int .i32 c1.ru, .int .i32 c1.m0, .int .i32 c1.m1, .int .u8 c1.k, .int .u8 c1.a.fg.k, .int .u8 c1.a.fg.r, .int .u8 c1.a.fg.g, .int .u8 c1.a.fg.b, .int .u8 c1.a.bg.k, .int .u8 c1.a.bg.r, .int .u8 c1.a.bg.g, .int .u8 c1.a.bg.b, .int .u16 (c1.a.fl : Nat), .int .u8 c1.l]) from HX.out.trans ((But.setRow wd b14 #[.int .i32 c1.ru, .int .i32 c1.m0, .int .i32 c1.m1, .int .u8 c1.k, .int .u8 c1.a.fg.k, .int .u8 c1.a.fg.r, .int .u8 c1.a.fg.g, .int .u8 c1.a.fg.b, .int .u8 c1.a.bg.k, .int .u8 c1.a.bg.r, .int .u8 c1.a.bg.g, .int .u8 c1.a.bg.b, .int .u16 (c1.a.fl : Nat), .int .u8 c1.l]).below HV14B.out HX.out.size))
            have HL12 := Lib.hid (show Lie (wd.setRow b14 #[.int .i32 c1.ru, .int .i32 c1.m0, .int .i32 c1.m1, .int .u8 c1.k, .int .u8 c1.a.fg.k, .int .u8 c1.a.fg.r, .int .u8 c1.a.fg.g, .int .u8 c1.a.fg.b, .int .u8 c1.a.bg.k, .int .u8 c1.a.bg.r, .int .u8 c1.a.bg.g, .int .u8 c1.a.bg.b, .int .u16 (c1.a.fl : Nat), .int .u8 c1.l]) b12 [.int .i32 c1.ru, .int .i32 c1.m0, .int .i32 c1.m1, .int .u8 c1.k, .int .u8 c1.a.fg.k, .int .u8 c1.a.fg.r, .int .u8 c1.a.fg.g, .int .u8 c1.a.fg.b, .int .u8 c1.a.bg.k, .int .u8 c1.a.bg.r, .int .u8 c1.a.bg.g, .int .u8 c1.a.bg.b, .int .u16 (c1.a.fl : Nat), .int .u8 c1.l] from HLX.out.buts (Buts.but (S := (· = b14)) (But.setRow wd b14 #[.int .i32 c1.ru, .int .i32 c1.m0, .int .i32 c1.m1, .int .u8 c1.k, .int .u8 c1.a.fg.k, .int .u8 c1.a.fg.r, .int .u8 c1.a.fg.g, .int .u8 c1.a.fg.b, .int .u8 c1.a.bg.k, .int .u8 c1.a.bg.r, .int .u8 c1.a.bg.g, .int .u8 c1.a.bg.b, .int .u16 (c1.a.fl : Nat), .int .u8 c1.l]) rfl) HNE.out)
            have HL11 := Lib.hid (show Lie (wd.setRow b14 #[.int .i32 c1.ru, .int .i32 c1.m0, .int .i32 c1.m1, .int .u8 c1.k, .int .u8 c1.a.fg.k, .int .u8 c1.a.fg.r, .int .u8 c1.a.fg.g, .int .u8 c1.a.fg.b, .int .u8 c1.a.bg.k, .int .u8 c1.a.bg.r, .int .u8 c1.a.bg.g, .int .u8 c1.a.bg.b, .int .u16 (c1.a.fl : Nat), .int .u8 c1.l]) b11 [.int .i64 (i : Nat), .int .i64 (j : Nat)] from HLP.out.buts (Buts.but (S := (· = b14)) (But.setRow wd b14 #[.int .i32 c1.ru, .int .i32 c1.m0, .int .i32 c1.m1, .int .u8 c1.k, .int .u8 c1.a.fg.k, .int .u8 c1.a.fg.r, .int .u8 c1.a.fg.g, .int .u8 c1.a.fg.b, .int .u8 c1.a.bg.k, .int .u8 c1.a.bg.r, .int .u8 c1.a.bg.g, .int .u8 c1.a.bg.b, .int .u16 (c1.a.fl : Nat), .int .u8 c1.l]) rfl) HNE1.out)
            refine wp_store_row 42 (.tmp 14) (.tmp 107) rfl b14 #[.int .i32 c1.ru, .int .i32 c1.m0, .int .i32 c1.m1, .int .u8 c1.k, .int .u8 c1.a.fg.k, .int .u8 c1.a.fg.r, .int .u8 c1.a.fg.g, .int .u8 c1.a.fg.b, .int .u8 c1.a.bg.k, .int .u8 c1.a.bg.r, .int .u8 c1.a.bg.g, .int .u8 c1.a.bg.b, .int .u16 (c1.a.fl : Nat), .int .u8 c1.l] rfl rfl 42 _ HV14X.out (by kernel_rfl) rfl (by simp [Value.oneCell']) ?_
            obtain ⟨wq, hwq⟩ : ∃ X, X = wd.setRow b14 #[.int .i32 c1.ru, .int .i32 c1.m0, .int .i32 c1.m1, .int .u8 c1.k, .int .u8 c1.a.fg.k, .int .u8 c1.a.fg.r, .int .u8 c1.a.fg.g, .int .u8 c1.a.fg.b, .int .u8 c1.a.bg.k, .int .u8 c1.a.bg.r, .int .u8 c1.a.bg.g, .int .u8 c1.a.bg.b, .int .u16 (c1.a.fl : Nat), .int .u8 c1.l] := ⟨_, rfl⟩
            rw [← hwq] at HQ HQB HL12 HL11 ⊢
            clear hwq
            refine hK.out _ _ ?_ (fun hHeld => ?_)
            · exact ⟨(HL7.out.below HQB.out).at 0 rfl, HL11.out.at 0 rfl, HL11.out.at 1 rfl, HS13.out _ HQB.out⟩
            clear hK K
            try simp only [Act.put]
            refine wpAnyH_done (by kernel_rfl) ?_ _
            have HL14 := Lib.hid (Lie.of HQ.out)
            clear hHeld HX HV14 HV14X HLX HLP HQ
            have HT := HQB
            clear HQB
            have HSK := Lib.hid (show ∀ W, Below wq.heap.size wq W → (fun wx => wx.cell? ⟨b7, 0, none⟩ = some (.slice (some ⟨gL, 0, none⟩) n vc) ∧ wx.cell? ⟨b11, 0, none⟩ = some (.int .i64 (i : Nat)) ∧ wx.cell? ⟨b11, 1, none⟩ = some (.int .i64 (j : Nat)) ∧ wx.cell? ⟨b12, 0, none⟩ = some (.int .i32 c1.ru) ∧ wx.cell? ⟨b12, 1, none⟩ = some (.int .i32 c1.m0) ∧ wx.cell? ⟨b12, 2, none⟩ = some (.int .i32 c1.m1) ∧ wx.cell? ⟨b12, 3, none⟩ = some (.int .u8 c1.k) ∧ wx.cell? ⟨b12, 4, none⟩ = some (.int .u8 c1.a.fg.k) ∧ wx.cell? ⟨b12, 5, none⟩ = some (.int .u8 c1.a.fg.r) ∧ wx.cell? ⟨b12, 6, none⟩ = some (.int .u8 c1.a.fg.g) ∧ wx.cell? ⟨b12, 7, none⟩ = some (.int .u8 c1.a.fg.b) ∧ wx.cell? ⟨b12, 8, none⟩ = some (.int .u8 c1.a.bg.k) ∧ wx.cell? ⟨b12, 9, none⟩ = some (.int .u8 c1.a.bg.r) ∧ wx.cell? ⟨b12, 10, none⟩ = some (.int .u8 c1.a.bg.g) ∧ wx.cell? ⟨b12, 11, none⟩ = some (.int .u8 c1.a.bg.b) ∧ wx.cell? ⟨b12, 12, none⟩ = some (.int .u16 (c1.a.fl : Nat)) ∧ wx.cell? ⟨b12, 13, none⟩ = some (.int .u8 c1.l) ∧ wx.cell? ⟨b14, 0, none⟩ = some (.int .i32 c1.ru) ∧ wx.cell? ⟨b14, 1, none⟩ = some (.int .i32 c1.m0) ∧ wx.cell? ⟨b14, 2, none⟩ = some (.int .i32 c1.m1) ∧ wx.cell? ⟨b14, 3, none⟩ = some (.int .u8 c1.k) ∧ wx.cell? ⟨b14, 4, none⟩ = some (.int .u8 c1.a.fg.k) ∧ wx.cell? ⟨b14, 5, none⟩ = some (.int .u8 c1.a.fg.r) ∧ wx.cell? ⟨b14, 6, none⟩ = some (.int .u8 c1.a.fg.g) ∧ wx.cell? ⟨b14, 7, none⟩ = some (.int .u8 c1.a.fg.b) ∧ wx.cell? ⟨b14, 8, none⟩ = some (.int .u8 c1.a.bg.k) ∧ wx.cell? ⟨b14, 9, none⟩ = some (.int .u8 c1.a.bg.r) ∧ wx.cell? ⟨b14, 10, none⟩ = some (.int .u8 c1.a.bg.g) ∧ wx.cell? ⟨b14, 11, none⟩ = some (.int .u8 c1.a.bg.b) ∧ wx.cell? ⟨b14, 12, none⟩ = some (.int .u16 (c1.a.fl : Nat)) ∧ wx.cell? ⟨b14, 13, none⟩ = some (.int .u8 c1.l)) W from fun W kb => ⟨(HL7.out.below (HT.out.trans (kb.mono HT.out.size))).at 0 rfl, (HL11.out.below kb).at 0 rfl, (HL11.out.below kb).at 1 rfl, (HL12.out.below kb).at 0 rfl, (HL12.out.below kb).at 1 rfl, (HL12.out.below kb).at 2 rfl, (HL12.out.below kb).at 3 rfl, (HL12.out.below kb).at 4 rfl, (HL12.out.below kb).at 5 rfl, (HL12.out.below kb).at 6 rfl, (HL12.out.below kb).at 7 rfl, (HL12.out.below kb).at 8 rfl, (HL12.out.below kb).at 9 rfl, (HL12.out.below kb).at 10 rfl, (HL12.out.below kb).at 11 rfl, (HL12.out.below kb).at 12 rfl, (HL12.out.below kb).at 13 rfl, (HL14.out.below kb).at 0 rfl, (HL14.out.below kb).at 1 rfl, (HL14.out.below kb).at 2 rfl, (HL14.out.below kb).at 3 rfl, (HL14.out.below kb).at 4 rfl, (HL14.out.below kb).at 5 rfl, (HL14.out.below kb).at 6 rfl, (HL14.out.below kb).at 7 rfl, (HL14.out.below kb).at 8 rfl, (HL14.out.below kb).at 9 rfl, (HL14.out.below kb).at 10 rfl, (HL14.out.below kb).at 11 rfl, (HL14.out.below kb).at 12 rfl, (HL14.out.below kb).at 13 rfl⟩)
            have hq : ∀ w : World, (Op.equalIn 10000 42 (celV c1) (celV c1)).run Try.prog w = .ok true w := fun w => by rw [eqCel, decide_eq_true rfl]
            go_upto_region 14 with (fail)
            refine wp_region_held_drew (S := fun wx => wx.cell? ⟨b7, 0, none⟩ = some (.slice (some ⟨gL, 0, none⟩) n vc) ∧ wx.cell? ⟨b11, 0, none⟩ = some (.int .i64 (i : Nat)) ∧ wx.cell? ⟨b11, 1, none⟩ = some (.int .i64 (j : Nat)) ∧ wx.cell? ⟨b12, 0, none⟩ = some (.int .i32 c1.ru) ∧ wx.cell? ⟨b12, 1, none⟩ = some (.int .i32 c1.m0) ∧ wx.cell? ⟨b12, 2, none⟩ = some (.int .i32 c1.m1) ∧ wx.cell? ⟨b12, 3, none⟩ = some (.int .u8 c1.k) ∧ wx.cell? ⟨b12, 4, none⟩ = some (.int .u8 c1.a.fg.k) ∧ wx.cell? ⟨b12, 5, none⟩ = some (.int .u8 c1.a.fg.r) ∧ wx.cell? ⟨b12, 6, none⟩ = some (.int .u8 c1.a.fg.g) ∧ wx.cell? ⟨b12, 7, none⟩ = some (.int .u8 c1.a.fg.b) ∧ wx.cell? ⟨b12, 8, none⟩ = some (.int .u8 c1.a.bg.k) ∧ wx.cell? ⟨b12, 9, none⟩ = some (.int .u8 c1.a.bg.r) ∧ wx.cell? ⟨b12, 10, none⟩ = some (.int .u8 c1.a.bg.g) ∧ wx.cell? ⟨b12, 11, none⟩ = some (.int .u8 c1.a.bg.b) ∧ wx.cell? ⟨b12, 12, none⟩ = some (.int .u16 (c1.a.fl : Nat)) ∧ wx.cell? ⟨b12, 13, none⟩ = some (.int .u8 c1.l) ∧ wx.cell? ⟨b14, 0, none⟩ = some (.int .i32 c1.ru) ∧ wx.cell? ⟨b14, 1, none⟩ = some (.int .i32 c1.m0) ∧ wx.cell? ⟨b14, 2, none⟩ = some (.int .i32 c1.m1) ∧ wx.cell? ⟨b14, 3, none⟩ = some (.int .u8 c1.k) ∧ wx.cell? ⟨b14, 4, none⟩ = some (.int .u8 c1.a.fg.k) ∧ wx.cell? ⟨b14, 5, none⟩ = some (.int .u8 c1.a.fg.r) ∧ wx.cell? ⟨b14, 6, none⟩ = some (.int .u8 c1.a.fg.g) ∧ wx.cell? ⟨b14, 7, none⟩ = some (.int .u8 c1.a.fg.b) ∧ wx.cell? ⟨b14, 8, none⟩ = some (.int .u8 c1.a.bg.k) ∧ wx.cell? ⟨b14, 9, none⟩ = some (.int .u8 c1.a.bg.r) ∧ wx.cell? ⟨b14, 10, none⟩ = some (.int .u8 c1.a.bg.g) ∧ wx.cell? ⟨b14, 11, none⟩ = some (.int .u8 c1.a.bg.b) ∧ wx.cell? ⟨b14, 12, none⟩ = some (.int .u16 (c1.a.fl : Nat)) ∧ wx.cell? ⟨b14, 13, none⟩ = some (.int .u8 c1.l)) (by kernel_rfl) ?_ (fun hHeld => ?_)
            · exact HSK.out _ ((Below.refl _ _).drew)
            obtain ⟨wd, hwd⟩ : ∃ X, X = wq.drew := ⟨_, rfl⟩
            have HX := Lib.hid (show Below wq.heap.size wq wd by rw [hwd]; exact (Below.refl _ _).drew)
            replace hHeld := HSK.out _ HX.out
            rw [← hwd]
            clear hwd
            refine tk 0 rfl (fun w hSw => by (try dsimp only at hSw); go_simp; try with_reducible rfl) ?_
            go_frame
            refine tk 1 rfl (fun w hSw => by (try dsimp only at hSw); go_simp; try with_reducible rfl) ?_
            go_frame
            refine tk 2 rfl (fun w hSw => by (try dsimp only at hSw); go_simp; try with_reducible rfl) ?_
            go_frame
            refine do_at (i := 3) rfl (by kernel_rfl) (by kernel_rfl) (fun K hK => ?_)
            go_simp
            refine (Is_any wd gL n vc m xc xa (i : Nat) (j : Nat) (HHD.out _ (HT.out.trans (HX.out.mono HT.out.size))).1 (HHD.out _ (HT.out.trans (HX.out.mono HT.out.size))).2).mono ?_
            rintro e wu ⟨rfl, bz⟩
            rw [HIP.out]
            replace HX := Lib.hid (HX.out.trans (bz.mono HX.out.size))
            clear bz
            go_wp2_with fail
            refine hK.out _ _ ?_ (fun hHeld => ?_)
            · exact HSK.out _ HX.out
            clear hK K
            try go_frame
            refine tk 4 rfl (fun w hSw => by (try dsimp only at hSw); go_simp; try with_reducible rfl) ?_
            go_frame
            refine tk 5 rfl (fun w hSw => by (try dsimp only at hSw); go_simp; try with_reducible rfl) ?_
            go_frame
            refine tk 6 rfl (fun w hSw => by (try dsimp only at hSw); go_simp; try with_reducible rfl) ?_
            go_frame
            refine tk 7 rfl (fun w hSw => by (try dsimp only at hSw); go_simp; try with_reducible rfl) ?_
            go_frame
            refine tk 8 rfl (fun w hSw => by (try dsimp only at hSw); go_simp; try with_reducible rfl) ?_
            go_frame
            refine tk 9 rfl (fun w hSw => by (try dsimp only at hSw); go_simp; try with_reducible rfl) ?_
            go_frame
            refine tk 10 rfl (fun w hSw => by (try dsimp only at hSw); go_simp; try with_reducible rfl) ?_
            go_frame
            refine tk 11 rfl (fun w hSw => by (try dsimp only at hSw); go_simp; try with_reducible rfl) ?_
            go_frame
            refine tk 12 rfl (fun w hSw => by (try dsimp only at hSw); go_simp; try with_reducible rfl) ?_
            go_frame
            refine tk 13 rfl (fun w hSw => by (try dsimp only at hSw); go_simp; try with_reducible rfl) ?_
            go_frame
            refine tk 17 rfl (fun w hSw => by (try dsimp only at hSw); go_simp; try with_reducible rfl) ?_
            go_frame
            refine tk 18 rfl (fun w hSw => by (try dsimp only at hSw); go_simp; try with_reducible rfl) ?_
            go_frame
            refine tk 19 rfl (fun w hSw => by (try dsimp only at hSw); go_simp; try with_reducible rfl) ?_
            go_frame
            refine do_at (i := 14) rfl (by kernel_rfl) (by kernel_rfl) (fun K hK => ?_)
            go_simp
            refine (grow_len wu lo p rb c m G (i : Nat) (HG.out.below (HT.out.trans (HX.out.mono HT.out.size))) HD.out).mono ?_
            rintro e wv ⟨ga, gl, gc', rfl, hl1, hl0, bz⟩
            have hgl0 : 0 < gl := hl1 (by rw [← HN.out]; exact HIR.out)
            have hgl : (0 : Int) < (gl : Int) := by omega
            clear hl1 hl0
            replace HX := Lib.hid (HX.out.trans (bz.mono HX.out.size))
            clear bz
            go_wp2_with fail
            refine hK.out _ _ ?_ (fun hHeld => ?_)
            · exact HSK.out _ HX.out
            clear hK K
            try go_frame
            refine tk 15 rfl (fun w hSw => by (try dsimp only at hSw); go_simp; try with_reducible rfl) ?_
            go_frame
            refine tk 16 rfl (fun w hSw => by (try dsimp only at hSw); go_simp; try with_reducible rfl) ?_
            go_frame
            refine tk 20 rfl (fun w hSw => by (try dsimp only at hSw); go_simp; try with_reducible rfl) ?_
            go_frame
            refine tk 21 rfl (fun w hSw => by (try dsimp only at hSw); go_simp; try with_reducible rfl) ?_
            go_frame
            refine tk 22 rfl (fun w hSw => by (try dsimp only at hSw); go_simp; try with_reducible rfl) ?_
            go_frame
            refine tk 23 rfl (fun w hSw => by (try dsimp only at hSw); go_simp; try with_reducible rfl) ?_
            go_frame
            refine tk 24 rfl (fun w hSw => by (try dsimp only at hSw); go_simp; try with_reducible rfl) ?_
            go_frame
            refine tk 25 rfl (fun w hSw => by (try dsimp only at hSw); go_simp; try with_reducible rfl) ?_
            go_frame
            refine tk 26 rfl (fun w hSw => by (try dsimp only at hSw); go_simp; try with_reducible rfl) ?_
            go_frame
            refine tk 27 rfl (fun w hSw => by (try dsimp only at hSw); go_simp; try with_reducible rfl) ?_
            go_frame
            refine tk 28 rfl (fun w hSw => by (try dsimp only at hSw); go_simp; try with_reducible rfl) ?_
            go_frame
            refine tk 29 rfl (fun w hSw => by (try dsimp only at hSw); go_simp; try with_reducible rfl) ?_
            go_frame
            refine wpAnyH_done (by kernel_rfl) ?_ _
            replace HT := Lib.hid (HT.out.trans (HX.out.mono HT.out.size))
            replace HL11 := Lib.hid (HL11.out.below HX.out)
            clear hHeld HSK HX HL12 HL14 hq
            have HL11S := Lib.hid (show b11 < wv.heap.size from HL11.out.1)
            go_wp2_with fail
            refine (gcopy_gg wv lo p rb c m G (HG.out.below HT.out) HD.out).mono ?_
            rintro e w16 ⟨p2, rb2, c2, rfl, g2, bz⟩
            obtain ⟨lo2, hlo2⟩ : ∃ l, l = wv.heap.size := ⟨_, rfl⟩
            rw [← hlo2] at g2
            have HG2' := Lib.hid g2
            have HTP := HT
            replace HL11 := Lib.hid (HL11.out.below bz)
            replace HT := Lib.hid (HT.out.trans (bz.mono HT.out.size))
            have HLO2 := Lib.hid (show wr.heap.size ≤ lo2 by rw [hlo2]; exact HTP.out.size)
            have HL2S := Lib.hid (show lo2 ≤ w16.heap.size by rw [hlo2]; exact bz.size)
            have HB11 := Lib.hid (show b11 ≠ rb2 by have h1 := g2.lt.2.2.1; have h2 := HL11S.out; omega)
            clear g2 bz hlo2 HTP HL11S
            have y0 := HL11.out.at 0 rfl
            go_wp2_with fail
            refine (gset_gg w16 lo2 p2 rb2 c2 m k0 cap aa G (i : Nat) RW HG2'.out HD.out HL2S.out (HRAW.out.below HT.out) HRL.out).mono ?_
            rintro e w18 ⟨rfl, g2, bt⟩
            rw [← HN.out, HIR.out]
            have HG2 := Lib.hid g2
            have HD2 := Lib.hid (setRG_siz HD.out (i : Nat) RW)
            replace HL11 := Lib.hid (HL11.out.buts bt HB11.out)
            replace HT := Lib.hid (show Below wr.heap.size wr w18 from HT.out.trans (bt.below (C := wr.heap.size) (fun i hi => by have h1 := HG2'.out.lt.2.2.1; have h2 := HLO2.out; omega) HT.out.size))
            clear g2 bt HG2' HLO2 HL2S HB11 y0
            have HSK := Lib.hid (show ∀ W, Below w18.heap.size w18 W → (fun wx => wx.cell? ⟨b7, 0, none⟩ = some (.slice (some ⟨gL, 0, none⟩) n vc) ∧ wx.cell? ⟨b11, 0, none⟩ = some (.int .i64 (i : Nat)) ∧ wx.cell? ⟨gL, 0, none⟩ = some (.slice xa m xc)) W from fun W kb => ⟨(HL7.out.below (HT.out.trans (kb.mono HT.out.size))).at 0 rfl, (HL11.out.below kb).at 0 rfl, (HHD.out _ (HT.out.trans (kb.mono HT.out.size))).1⟩)
            by_cases hkm : k0 = m
            · have hkd : decide (k0 = m) = true := decide_eq_true hkm
              have hkq : ((k0 : Int) == (m : Int)) = true := by simp [hkm]
              rw [hkd]
              clear hkm
              go_upto_region 18 with (fail)
              refine wp_region_held_drew (S := fun wx => wx.cell? ⟨b7, 0, none⟩ = some (.slice (some ⟨gL, 0, none⟩) n vc) ∧ wx.cell? ⟨b11, 0, none⟩ = some (.int .i64 (i : Nat)) ∧ wx.cell? ⟨gL, 0, none⟩ = some (.slice xa m xc)) (by kernel_rfl) ?_ (fun hHeld => ?_)
              · exact HSK.out _ ((Below.refl _ _).drew)
              obtain ⟨wd, hwd⟩ : ∃ X, X = w18.drew := ⟨_, rfl⟩
              have HX := Lib.hid (show Below w18.heap.size w18 wd by rw [hwd]; exact (Below.refl _ _).drew)
              replace hHeld := HSK.out _ HX.out
              rw [← hwd]
              clear hwd
              refine tk 0 rfl (fun w hSw => by (try dsimp only at hSw); go_simp; try with_reducible rfl) ?_
              go_frame
              refine tk 1 rfl (fun w hSw => by (try dsimp only at hSw); go_simp; try with_reducible rfl) ?_
              go_frame
              refine tk 2 rfl (fun w hSw => by (try dsimp only at hSw); go_simp; try with_reducible rfl) ?_
              go_frame
              refine tk 3 rfl (fun w hSw => by (try dsimp only at hSw); go_simp; try with_reducible rfl) ?_
              go_frame
              refine tk 4 rfl (fun w hSw => by (try dsimp only at hSw); go_simp; try with_reducible rfl) ?_
              go_frame
              refine tk 5 rfl (fun w hSw => by (try dsimp only at hSw); go_simp; try with_reducible rfl) ?_
              go_frame
              refine tk 6 rfl (fun w hSw => by (try dsimp only at hSw); go_simp; try with_reducible rfl) ?_
              go_frame
              refine tk 7 rfl (fun w hSw => by (try dsimp only at hSw); go_simp; try with_reducible rfl) ?_
              go_frame
              refine tk 8 rfl (fun w hSw => by (try dsimp only at hSw); go_simp; try with_reducible rfl) ?_
              go_frame
              refine tk 9 rfl (fun w hSw => by (try dsimp only at hSw); go_simp; try with_reducible rfl) ?_
              go_frame
              refine tk 10 rfl (fun w hSw => by (try dsimp only at hSw); go_simp; try with_reducible rfl) ?_
              go_frame
              refine tk 11 rfl (fun w hSw => by (try dsimp only at hSw); go_simp; try with_reducible rfl) ?_
              go_frame
              refine tk 12 rfl (fun w hSw => by (try dsimp only at hSw); go_simp; try with_reducible rfl) ?_
              go_frame
              refine tk 13 rfl (fun w hSw => by (try dsimp only at hSw); go_simp; try with_reducible rfl) ?_
              go_frame
              refine tk 14 rfl (fun w hSw => by (try dsimp only at hSw); go_simp; try with_reducible rfl) ?_
              go_frame
              refine tk 15 rfl (fun w hSw => by (try dsimp only at hSw); go_simp; try with_reducible rfl) ?_
              go_frame
              refine tk 16 rfl (fun w hSw => by (try dsimp only at hSw); go_simp; try with_reducible rfl) ?_
              go_frame
              refine tk 17 rfl (fun w hSw => by (try dsimp only at hSw); go_simp; try with_reducible rfl) ?_
              go_frame
              refine tk 18 rfl (fun w hSw => by (try dsimp only at hSw); go_simp; try with_reducible rfl) ?_
              go_frame
              refine tk 19 rfl (fun w hSw => by (try dsimp only at hSw); go_simp; try with_reducible rfl) ?_
              go_frame
              refine tk 20 rfl (fun w hSw => by (try dsimp only at hSw); go_simp; try with_reducible rfl) ?_
              go_frame
              refine tk 21 rfl (fun w hSw => by (try dsimp only at hSw); go_simp; try with_reducible rfl) ?_
              go_frame
              refine tk 22 rfl (fun w hSw => by (try dsimp only at hSw); go_simp; try with_reducible rfl) ?_
              go_frame
              refine tk 23 rfl (fun w hSw => by (try dsimp only at hSw); go_simp; try with_reducible rfl) ?_
              go_frame
              refine tk 24 rfl (fun w hSw => by (try dsimp only at hSw); go_simp; try with_reducible rfl) ?_
              go_frame
              refine tk 26 rfl (fun w hSw => by (try dsimp only at hSw); go_simp; try with_reducible rfl) ?_
              go_frame
              refine tk 27 rfl (fun w hSw => by (try dsimp only at hSw); go_simp; try with_reducible rfl) ?_
              go_frame
              refine tk 28 rfl (fun w hSw => by (try dsimp only at hSw); go_simp; try with_reducible rfl) ?_
              go_frame
              refine tk 29 rfl (fun w hSw => by (try dsimp only at hSw); go_simp; try with_reducible rfl) ?_
              go_frame
              refine do_at (i := 25) rfl (by kernel_rfl) (by kernel_rfl) (fun K hK => ?_)
              go_simp
              refine (rows_raw wd lo2 p2 rb2 c2 m _ (HG2.out.below HX.out) HD2.out).mono ?_
              rintro e wu ⟨vs, Ks, rfl, ks, hks, _, bz⟩
              have HVS := Lib.hid (show Rl wu _ vs (setRG G (i : Nat) RW) from ⟨Ks, ks, hks⟩)
              clear ks hks
              replace HX := Lib.hid (HX.out.trans (bz.mono HX.out.size))
              clear bz
              go_wp2_with fail
              refine hK.out _ _ ?_ (fun hHeld => ?_)
              · exact HSK.out _ HX.out
              clear hK K
              try go_frame
              refine do_at (i := 30) rfl (by kernel_rfl) (by kernel_rfl) (fun K hK => ?_)
              go_simp
              refine (rset_any wu loL loL (.slice (some ⟨gL, 0, none⟩) n vc) KL (i : Nat) (.slice aa k0 cap) RW (HKL.out.below (HT.out.trans (HX.out.mono HT.out.size))) (by have := HKN.out; have := HN.out; have := HD.out.n0; omega) (by have := HKN.out; have := HN.out; have := HD.out.n1; omega) (Nat.le_trans HLOL.out (HT.out.trans (HX.out.mono HT.out.size)).size) (HRAW.out.below (HT.out.trans (HX.out.mono HT.out.size))) HRL.out HM0.out).mono ?_
              rintro e wv ⟨v', K', rfl, k1, k2, bz⟩
              rw [HKM.out] at k2
              have HVR := Lib.hid (show Rl wv loL v' (setRG G (i : Nat) RW) from ⟨K', k1.lower (Nat.le_refl _) (Nat.le_trans HLOL.out (HT.out.trans (HX.out.mono HT.out.size)).size), k2⟩)
              have hfr : ∀ W : World, (Instr.field 29 (.agg #[v']) 0).run Try.prog W = .ok v' W := fun _ => by kernel_rfl
              replace HVS := Lib.hid (HVS.out.below bz)
              clear k1 k2
              replace HX := Lib.hid (HX.out.trans (bz.mono HX.out.size))
              clear bz
              go_wp2_with fail
              refine hK.out _ _ ?_ (fun hHeld => ?_)
              · exact HSK.out _ HX.out
              clear hK K
              try go_frame
              refine tk 31 rfl (fun w hSw => by (try dsimp only at hSw); go_simp; try with_reducible rfl) ?_
              go_frame
              refine do_at (i := 32) rfl (by kernel_rfl) (by kernel_rfl) (fun K hK => ?_)
              go_simp
              refine (rsames_yes wv _ _ vs v' _ HVS.out HVR.out (by have := HD2.out.n1; omega) (fun R hR => by have := HD2.out.row R hR; have := HD2.out.m1; omega)).mono ?_
              rintro e wz ⟨rfl, bz⟩
              replace HX := Lib.hid (HX.out.trans (bz.mono HX.out.size))
              clear bz
              go_wp2_with fail
              refine hK.out _ _ ?_ (fun hHeld => ?_)
              · exact HSK.out _ HX.out
              clear hK K
              try go_frame
              refine tk 33 rfl (fun w hSw => by (try dsimp only at hSw); go_simp; try with_reducible rfl) ?_
              go_frame
              refine tk 34 rfl (fun w hSw => by (try dsimp only at hSw); go_simp; try with_reducible rfl) ?_
              go_frame
              refine wpAnyH_done (by kernel_rfl) ?_ _
              have HTE := Lib.hid (HTW.out.trans ((HT.out.trans (HX.out.mono HT.out.size)).mono HTW.out.size))
              clear hHeld HSK HX HVS HVR HT HG2 HD2 HL11 hfr
              go_wp2
              go_roundg (3 - (k + 1))
              case rel => exact ⟨k + 1, by go_num, HLT.out, Nat.le_refl _, HTE⟩
              case measure => have := HLT.out; omega
            · have hkd : decide (k0 = m) = false := decide_eq_false hkm
              have hkq : ((k0 : Int) == (m : Int)) = false := by simp; omega
              rw [hkd]
              clear hkm
              go_upto_region 18 with (fail)
              refine wp_region_held_drew (S := fun wx => wx.cell? ⟨b7, 0, none⟩ = some (.slice (some ⟨gL, 0, none⟩) n vc) ∧ wx.cell? ⟨b11, 0, none⟩ = some (.int .i64 (i : Nat)) ∧ wx.cell? ⟨gL, 0, none⟩ = some (.slice xa m xc)) (by kernel_rfl) ?_ (fun hHeld => ?_)
              · exact HSK.out _ ((Below.refl _ _).drew)
              obtain ⟨wd, hwd⟩ : ∃ X, X = w18.drew := ⟨_, rfl⟩
              have HX := Lib.hid (show Below w18.heap.size w18 wd by rw [hwd]; exact (Below.refl _ _).drew)
              replace hHeld := HSK.out _ HX.out
              rw [← hwd]
              clear hwd
              refine tk 0 rfl (fun w hSw => by (try dsimp only at hSw); go_simp; try with_reducible rfl) ?_
              go_frame
              refine tk 1 rfl (fun w hSw => by (try dsimp only at hSw); go_simp; try with_reducible rfl) ?_
              go_frame
              refine tk 2 rfl (fun w hSw => by (try dsimp only at hSw); go_simp; try with_reducible rfl) ?_
              go_frame
              refine tk 3 rfl (fun w hSw => by (try dsimp only at hSw); go_simp; try with_reducible rfl) ?_
              go_frame
              refine tk 4 rfl (fun w hSw => by (try dsimp only at hSw); go_simp; try with_reducible rfl) ?_
              go_frame
              refine tk 5 rfl (fun w hSw => by (try dsimp only at hSw); go_simp; try with_reducible rfl) ?_
              go_frame
              refine tk 6 rfl (fun w hSw => by (try dsimp only at hSw); go_simp; try with_reducible rfl) ?_
              go_frame
              refine tk 7 rfl (fun w hSw => by (try dsimp only at hSw); go_simp; try with_reducible rfl) ?_
              go_frame
              refine tk 8 rfl (fun w hSw => by (try dsimp only at hSw); go_simp; try with_reducible rfl) ?_
              go_frame
              refine tk 9 rfl (fun w hSw => by (try dsimp only at hSw); go_simp; try with_reducible rfl) ?_
              go_frame
              refine tk 10 rfl (fun w hSw => by (try dsimp only at hSw); go_simp; try with_reducible rfl) ?_
              go_frame
              refine tk 11 rfl (fun w hSw => by (try dsimp only at hSw); go_simp; try with_reducible rfl) ?_
              go_frame
              refine tk 12 rfl (fun w hSw => by (try dsimp only at hSw); go_simp; try with_reducible rfl) ?_
              go_frame
              refine tk 13 rfl (fun w hSw => by (try dsimp only at hSw); go_simp; try with_reducible rfl) ?_
              go_frame
              refine tk 14 rfl (fun w hSw => by (try dsimp only at hSw); go_simp; try with_reducible rfl) ?_
              go_frame
              refine tk 15 rfl (fun w hSw => by (try dsimp only at hSw); go_simp; try with_reducible rfl) ?_
              go_frame
              refine tk 16 rfl (fun w hSw => by (try dsimp only at hSw); go_simp; try with_reducible rfl) ?_
              go_frame
              refine tk 17 rfl (fun w hSw => by (try dsimp only at hSw); go_simp; try with_reducible rfl) ?_
              go_frame
              refine tk 18 rfl (fun w hSw => by (try dsimp only at hSw); go_simp; try with_reducible rfl) ?_
              go_frame
              refine tk 19 rfl (fun w hSw => by (try dsimp only at hSw); go_simp; try with_reducible rfl) ?_
              go_frame
              refine tk 20 rfl (fun w hSw => by (try dsimp only at hSw); go_simp; try with_reducible rfl) ?_
              go_frame
              refine tk 21 rfl (fun w hSw => by (try dsimp only at hSw); go_simp; try with_reducible rfl) ?_
              go_frame
              refine tk 22 rfl (fun w hSw => by (try dsimp only at hSw); go_simp; try with_reducible rfl) ?_
              go_frame
              refine tk 23 rfl (fun w hSw => by (try dsimp only at hSw); go_simp; try with_reducible rfl) ?_
              go_frame
              refine tk 24 rfl (fun w hSw => by (try dsimp only at hSw); go_simp; try with_reducible rfl) ?_
              go_frame
              refine tk 26 rfl (fun w hSw => by (try dsimp only at hSw); go_simp; try with_reducible rfl) ?_
              go_frame
              refine tk 27 rfl (fun w hSw => by (try dsimp only at hSw); go_simp; try with_reducible rfl) ?_
              go_frame
              refine tk 28 rfl (fun w hSw => by (try dsimp only at hSw); go_simp; try with_reducible rfl) ?_
              go_frame
              refine tk 29 rfl (fun w hSw => by (try dsimp only at hSw); go_simp; try with_reducible rfl) ?_
              go_frame
              refine do_at (i := 25) rfl (by kernel_rfl) (by kernel_rfl) (fun K hK => ?_)
              go_simp
              refine (rows_raw wd lo2 p2 rb2 c2 m _ (HG2.out.below HX.out) HD2.out).mono ?_
              rintro e wu ⟨vs, Ks, rfl, ks, hks, _, bz⟩
              have HVS := Lib.hid (show Rl wu _ vs (setRG G (i : Nat) RW) from ⟨Ks, ks, hks⟩)
              clear ks hks
              replace HX := Lib.hid (HX.out.trans (bz.mono HX.out.size))
              clear bz
              go_wp2_with fail
              refine hK.out _ _ ?_ (fun hHeld => ?_)
              · exact HSK.out _ HX.out
              clear hK K
              try go_frame
              refine do_at (i := 30) rfl (by kernel_rfl) (by kernel_rfl) (fun K hK => ?_)
              go_simp
              refine (rset_any wu loL loL (.slice (some ⟨gL, 0, none⟩) n vc) KL (i : Nat) (.slice aa k0 cap) RW (HKL.out.below (HT.out.trans (HX.out.mono HT.out.size))) (by have := HKN.out; have := HN.out; have := HD.out.n0; omega) (by have := HKN.out; have := HN.out; have := HD.out.n1; omega) (Nat.le_trans HLOL.out (HT.out.trans (HX.out.mono HT.out.size)).size) (HRAW.out.below (HT.out.trans (HX.out.mono HT.out.size))) HRL.out HM0.out).mono ?_
              rintro e wv ⟨v', K', rfl, k1, k2, bz⟩
              rw [HKM.out] at k2
              have HVR := Lib.hid (show Rl wv loL v' (setRG G (i : Nat) RW) from ⟨K', k1.lower (Nat.le_refl _) (Nat.le_trans HLOL.out (HT.out.trans (HX.out.mono HT.out.size)).size), k2⟩)
              have hfr : ∀ W : World, (Instr.field 29 (.agg #[v']) 0).run Try.prog W = .ok v' W := fun _ => by kernel_rfl
              replace HVS := Lib.hid (HVS.out.below bz)
              clear k1 k2
              replace HX := Lib.hid (HX.out.trans (bz.mono HX.out.size))
              clear bz
              go_wp2_with fail
              refine hK.out _ _ ?_ (fun hHeld => ?_)
              · exact HSK.out _ HX.out
              clear hK K
              try go_frame
              refine tk 31 rfl (fun w hSw => by (try dsimp only at hSw); go_simp; try with_reducible rfl) ?_
              go_frame
              refine do_at (i := 32) rfl (by kernel_rfl) (by kernel_rfl) (fun K hK => ?_)
              go_simp
              refine (rsames_yes wv _ _ vs v' _ HVS.out HVR.out (by have := HD2.out.n1; omega) (fun R hR => by have := HD2.out.row R hR; have := HD2.out.m1; omega)).mono ?_
              rintro e wz ⟨rfl, bz⟩
              replace HX := Lib.hid (HX.out.trans (bz.mono HX.out.size))
              clear bz
              go_wp2_with fail
              refine hK.out _ _ ?_ (fun hHeld => ?_)
              · exact HSK.out _ HX.out
              clear hK K
              try go_frame
              refine tk 33 rfl (fun w hSw => by (try dsimp only at hSw); go_simp; try with_reducible rfl) ?_
              go_frame
              refine tk 34 rfl (fun w hSw => by (try dsimp only at hSw); go_simp; try with_reducible rfl) ?_
              go_frame
              refine wpAnyH_done (by kernel_rfl) ?_ _
              have HTE := Lib.hid (HTW.out.trans ((HT.out.trans (HX.out.mono HT.out.size)).mono HTW.out.size))
              clear hHeld HSK HX HVS HVR HT HG2 HD2 HL11 hfr
              go_wp2
              go_roundg (3 - (k + 1))
              case rel => exact ⟨k + 1, by go_num, HLT.out, Nat.le_refl _, HTE⟩
              case measure => have := HLT.out; omega
        | false =>
          as_aux_lemma =>
            have HIR := Lib.hid hIR
            have HIP := Lib.hid (show (isInB pr n && isInB pc m) = false by rw [hIR, hIC]; rfl)
            have HC1E := Lib.hid (show c1 = Cel.z by rw [HC1.out]; unfold atM; rw [← HN.out, HIP.out, if_neg (by decide)])
            obtain ⟨hge, hlt'⟩ : 0 ≤ pr ∧ pr < (n : Int) := by obtain ⟨i, ei, hi⟩ := isInB_true hIR; omega
            have hge1 : decide (0 ≤ pr) = true := decide_eq_true hge
            have hlt1 : decide (pr < (n : Int)) = true := decide_eq_true hlt'
            clear hIR hIC
            have y7 := (HL7.out.below HT.out).at 0 rfl
            have y0 := HL11.out.at 0 rfl
            have y1 := HL11.out.at 1 rfl
            go_wp2_with fail
            refine (Is_any w12 gL n vc m xc xa pr pc (HHD.out _ HT.out).1 (HHD.out _ HT.out).2).mono ?_
            rintro e w13 ⟨rfl, bz⟩
            rw [HIP.out]
            replace HL11 := Lib.hid (HL11.out.below bz)
            replace HL12 := Lib.hid (HL12.out.below bz)
            replace HV14 := Lib.hid ((bz.block b14 (Array.getElem?_eq_some_iff.1 HV14.out).1).trans HV14.out)
            replace HT := Lib.hid (HT.out.trans (bz.mono HT.out.size))
            clear bz y7 y0 y1
            have HL14 := Lib.hid (show Lie w13 b14 [.int .i32 c1.ru, .int .i32 c1.m0, .int .i32 c1.m1, .int .u8 c1.k, .int .u8 c1.a.fg.k, .int .u8 c1.a.fg.r, .int .u8 c1.a.fg.g, .int .u8 c1.a.fg.b, .int .u8 c1.a.bg.k, .int .u8 c1.a.bg.r, .int .u8 c1.a.bg.g, .int .u8 c1.a.bg.b, .int .u16 (c1.a.fl : Nat), .int .u8 c1.l] by rw [HC1E.out]; exact Lie.of HV14.out)
            clear HV14
            have HSK := Lib.hid (show ∀ W, Below w13.heap.size w13 W → (fun wx => wx.cell? ⟨b7, 0, none⟩ = some (.slice (some ⟨gL, 0, none⟩) n vc) ∧ wx.cell? ⟨b11, 0, none⟩ = some (.int .i64 pr) ∧ wx.cell? ⟨b11, 1, none⟩ = some (.int .i64 pc) ∧ wx.cell? ⟨b12, 0, none⟩ = some (.int .i32 c1.ru) ∧ wx.cell? ⟨b12, 1, none⟩ = some (.int .i32 c1.m0) ∧ wx.cell? ⟨b12, 2, none⟩ = some (.int .i32 c1.m1) ∧ wx.cell? ⟨b12, 3, none⟩ = some (.int .u8 c1.k) ∧ wx.cell? ⟨b12, 4, none⟩ = some (.int .u8 c1.a.fg.k) ∧ wx.cell? ⟨b12, 5, none⟩ = some (.int .u8 c1.a.fg.r) ∧ wx.cell? ⟨b12, 6, none⟩ = some (.int .u8 c1.a.fg.g) ∧ wx.cell? ⟨b12, 7, none⟩ = some (.int .u8 c1.a.fg.b) ∧ wx.cell? ⟨b12, 8, none⟩ = some (.int .u8 c1.a.bg.k) ∧ wx.cell? ⟨b12, 9, none⟩ = some (.int .u8 c1.a.bg.r) ∧ wx.cell? ⟨b12, 10, none⟩ = some (.int .u8 c1.a.bg.g) ∧ wx.cell? ⟨b12, 11, none⟩ = some (.int .u8 c1.a.bg.b) ∧ wx.cell? ⟨b12, 12, none⟩ = some (.int .u16 (c1.a.fl : Nat)) ∧ wx.cell? ⟨b12, 13, none⟩ = some (.int .u8 c1.l) ∧ wx.cell? ⟨b14, 0, none⟩ = some (.int .i32 c1.ru) ∧ wx.cell? ⟨b14, 1, none⟩ = some (.int .i32 c1.m0) ∧ wx.cell? ⟨b14, 2, none⟩ = some (.int .i32 c1.m1) ∧ wx.cell? ⟨b14, 3, none⟩ = some (.int .u8 c1.k) ∧ wx.cell? ⟨b14, 4, none⟩ = some (.int .u8 c1.a.fg.k) ∧ wx.cell? ⟨b14, 5, none⟩ = some (.int .u8 c1.a.fg.r) ∧ wx.cell? ⟨b14, 6, none⟩ = some (.int .u8 c1.a.fg.g) ∧ wx.cell? ⟨b14, 7, none⟩ = some (.int .u8 c1.a.fg.b) ∧ wx.cell? ⟨b14, 8, none⟩ = some (.int .u8 c1.a.bg.k) ∧ wx.cell? ⟨b14, 9, none⟩ = some (.int .u8 c1.a.bg.r) ∧ wx.cell? ⟨b14, 10, none⟩ = some (.int .u8 c1.a.bg.g) ∧ wx.cell? ⟨b14, 11, none⟩ = some (.int .u8 c1.a.bg.b) ∧ wx.cell? ⟨b14, 12, none⟩ = some (.int .u16 (c1.a.fl : Nat)) ∧ wx.cell? ⟨b14, 13, none⟩ = some (.int .u8 c1.l)) W from fun W kb => ⟨(HL7.out.below (HT.out.trans (kb.mono HT.out.size))).at 0 rfl, (HL11.out.below kb).at 0 rfl, (HL11.out.below kb).at 1 rfl, (HL12.out.below kb).at 0 rfl, (HL12.out.below kb).at 1 rfl, (HL12.out.below kb).at 2 rfl, (HL12.out.below kb).at 3 rfl, (HL12.out.below kb).at 4 rfl, (HL12.out.below kb).at 5 rfl, (HL12.out.below kb).at 6 rfl, (HL12.out.below kb).at 7 rfl, (HL12.out.below kb).at 8 rfl, (HL12.out.below kb).at 9 rfl, (HL12.out.below kb).at 10 rfl, (HL12.out.below kb).at 11 rfl, (HL12.out.below kb).at 12 rfl, (HL12.out.below kb).at 13 rfl, (HL14.out.below kb).at 0 rfl, (HL14.out.below kb).at 1 rfl, (HL14.out.below kb).at 2 rfl, (HL14.out.below kb).at 3 rfl, (HL14.out.below kb).at 4 rfl, (HL14.out.below kb).at 5 rfl, (HL14.out.below kb).at 6 rfl, (HL14.out.below kb).at 7 rfl, (HL14.out.below kb).at 8 rfl, (HL14.out.below kb).at 9 rfl, (HL14.out.below kb).at 10 rfl, (HL14.out.below kb).at 11 rfl, (HL14.out.below kb).at 12 rfl, (HL14.out.below kb).at 13 rfl⟩)
            have hq : ∀ w : World, (Op.equalIn 10000 42 (celV c1) (celV c1)).run Try.prog w = .ok true w := fun w => by rw [eqCel, decide_eq_true rfl]
            go_upto_region 14 with (fail)
            refine wp_region_held_drew (S := fun wx => wx.cell? ⟨b7, 0, none⟩ = some (.slice (some ⟨gL, 0, none⟩) n vc) ∧ wx.cell? ⟨b11, 0, none⟩ = some (.int .i64 pr) ∧ wx.cell? ⟨b11, 1, none⟩ = some (.int .i64 pc) ∧ wx.cell? ⟨b12, 0, none⟩ = some (.int .i32 c1.ru) ∧ wx.cell? ⟨b12, 1, none⟩ = some (.int .i32 c1.m0) ∧ wx.cell? ⟨b12, 2, none⟩ = some (.int .i32 c1.m1) ∧ wx.cell? ⟨b12, 3, none⟩ = some (.int .u8 c1.k) ∧ wx.cell? ⟨b12, 4, none⟩ = some (.int .u8 c1.a.fg.k) ∧ wx.cell? ⟨b12, 5, none⟩ = some (.int .u8 c1.a.fg.r) ∧ wx.cell? ⟨b12, 6, none⟩ = some (.int .u8 c1.a.fg.g) ∧ wx.cell? ⟨b12, 7, none⟩ = some (.int .u8 c1.a.fg.b) ∧ wx.cell? ⟨b12, 8, none⟩ = some (.int .u8 c1.a.bg.k) ∧ wx.cell? ⟨b12, 9, none⟩ = some (.int .u8 c1.a.bg.r) ∧ wx.cell? ⟨b12, 10, none⟩ = some (.int .u8 c1.a.bg.g) ∧ wx.cell? ⟨b12, 11, none⟩ = some (.int .u8 c1.a.bg.b) ∧ wx.cell? ⟨b12, 12, none⟩ = some (.int .u16 (c1.a.fl : Nat)) ∧ wx.cell? ⟨b12, 13, none⟩ = some (.int .u8 c1.l) ∧ wx.cell? ⟨b14, 0, none⟩ = some (.int .i32 c1.ru) ∧ wx.cell? ⟨b14, 1, none⟩ = some (.int .i32 c1.m0) ∧ wx.cell? ⟨b14, 2, none⟩ = some (.int .i32 c1.m1) ∧ wx.cell? ⟨b14, 3, none⟩ = some (.int .u8 c1.k) ∧ wx.cell? ⟨b14, 4, none⟩ = some (.int .u8 c1.a.fg.k) ∧ wx.cell? ⟨b14, 5, none⟩ = some (.int .u8 c1.a.fg.r) ∧ wx.cell? ⟨b14, 6, none⟩ = some (.int .u8 c1.a.fg.g) ∧ wx.cell? ⟨b14, 7, none⟩ = some (.int .u8 c1.a.fg.b) ∧ wx.cell? ⟨b14, 8, none⟩ = some (.int .u8 c1.a.bg.k) ∧ wx.cell? ⟨b14, 9, none⟩ = some (.int .u8 c1.a.bg.r) ∧ wx.cell? ⟨b14, 10, none⟩ = some (.int .u8 c1.a.bg.g) ∧ wx.cell? ⟨b14, 11, none⟩ = some (.int .u8 c1.a.bg.b) ∧ wx.cell? ⟨b14, 12, none⟩ = some (.int .u16 (c1.a.fl : Nat)) ∧ wx.cell? ⟨b14, 13, none⟩ = some (.int .u8 c1.l)) (by kernel_rfl) ?_ (fun hHeld => ?_)
            · exact HSK.out _ ((Below.refl _ _).drew)
            obtain ⟨wd, hwd⟩ : ∃ X, X = w13.drew := ⟨_, rfl⟩
            have HX := Lib.hid (show Below w13.heap.size w13 wd by rw [hwd]; exact (Below.refl _ _).drew)
            replace hHeld := HSK.out _ HX.out
            rw [← hwd]
            clear hwd
            refine tk 0 rfl (fun w hSw => by (try dsimp only at hSw); go_simp; try with_reducible rfl) ?_
            go_frame
            refine tk 1 rfl (fun w hSw => by (try dsimp only at hSw); go_simp; try with_reducible rfl) ?_
            go_frame
            refine tk 2 rfl (fun w hSw => by (try dsimp only at hSw); go_simp; try with_reducible rfl) ?_
            go_frame
            refine do_at (i := 3) rfl (by kernel_rfl) (by kernel_rfl) (fun K hK => ?_)
            go_simp
            refine (Is_any wd gL n vc m xc xa pr pc (HHD.out _ (HT.out.trans (HX.out.mono HT.out.size))).1 (HHD.out _ (HT.out.trans (HX.out.mono HT.out.size))).2).mono ?_
            rintro e wu ⟨rfl, bz⟩
            rw [HIP.out]
            replace HX := Lib.hid (HX.out.trans (bz.mono HX.out.size))
            clear bz
            go_wp2_with fail
            refine hK.out _ _ ?_ (fun hHeld => ?_)
            · exact HSK.out _ HX.out
            clear hK K
            try go_frame
            refine tk 4 rfl (fun w hSw => by (try dsimp only at hSw); go_simp; try with_reducible rfl) ?_
            go_frame
            refine tk 5 rfl (fun w hSw => by (try dsimp only at hSw); go_simp; try with_reducible rfl) ?_
            go_frame
            refine tk 6 rfl (fun w hSw => by (try dsimp only at hSw); go_simp; try with_reducible rfl) ?_
            go_frame
            refine tk 7 rfl (fun w hSw => by (try dsimp only at hSw); go_simp; try with_reducible rfl) ?_
            go_frame
            refine tk 8 rfl (fun w hSw => by (try dsimp only at hSw); go_simp; try with_reducible rfl) ?_
            go_frame
            refine tk 9 rfl (fun w hSw => by (try dsimp only at hSw); go_simp; try with_reducible rfl) ?_
            go_frame
            refine tk 10 rfl (fun w hSw => by (try dsimp only at hSw); go_simp; try with_reducible rfl) ?_
            go_frame
            refine tk 11 rfl (fun w hSw => by (try dsimp only at hSw); go_simp; try with_reducible rfl) ?_
            go_frame
            refine tk 12 rfl (fun w hSw => by (try dsimp only at hSw); go_simp; try with_reducible rfl) ?_
            go_frame
            refine tk 13 rfl (fun w hSw => by (try dsimp only at hSw); go_simp; try with_reducible rfl) ?_
            go_frame
            refine tk 17 rfl (fun w hSw => by (try dsimp only at hSw); go_simp; try with_reducible rfl) ?_
            go_frame
            refine tk 18 rfl (fun w hSw => by (try dsimp only at hSw); go_simp; try with_reducible rfl) ?_
            go_frame
            refine tk 19 rfl (fun w hSw => by (try dsimp only at hSw); go_simp; try with_reducible rfl) ?_
            go_frame
            refine do_at (i := 14) rfl (by kernel_rfl) (by kernel_rfl) (fun K hK => ?_)
            go_simp
            refine (grow_len wu lo p rb c m G pr (HG.out.below (HT.out.trans (HX.out.mono HT.out.size))) HD.out).mono ?_
            rintro e wv ⟨ga, gl, gc', rfl, hl1, hl0, bz⟩
            have hgl0 : 0 < gl := hl1 (by rw [← HN.out]; exact HIR.out)
            have hgl : (0 : Int) < (gl : Int) := by omega
            clear hl1 hl0
            replace HX := Lib.hid (HX.out.trans (bz.mono HX.out.size))
            clear bz
            go_wp2_with fail
            refine hK.out _ _ ?_ (fun hHeld => ?_)
            · exact HSK.out _ HX.out
            clear hK K
            try go_frame
            refine tk 15 rfl (fun w hSw => by (try dsimp only at hSw); go_simp; try with_reducible rfl) ?_
            go_frame
            refine tk 16 rfl (fun w hSw => by (try dsimp only at hSw); go_simp; try with_reducible rfl) ?_
            go_frame
            refine tk 20 rfl (fun w hSw => by (try dsimp only at hSw); go_simp; try with_reducible rfl) ?_
            go_frame
            refine tk 21 rfl (fun w hSw => by (try dsimp only at hSw); go_simp; try with_reducible rfl) ?_
            go_frame
            refine tk 22 rfl (fun w hSw => by (try dsimp only at hSw); go_simp; try with_reducible rfl) ?_
            go_frame
            refine tk 23 rfl (fun w hSw => by (try dsimp only at hSw); go_simp; try with_reducible rfl) ?_
            go_frame
            refine tk 24 rfl (fun w hSw => by (try dsimp only at hSw); go_simp; try with_reducible rfl) ?_
            go_frame
            refine tk 25 rfl (fun w hSw => by (try dsimp only at hSw); go_simp; try with_reducible rfl) ?_
            go_frame
            refine tk 26 rfl (fun w hSw => by (try dsimp only at hSw); go_simp; try with_reducible rfl) ?_
            go_frame
            refine tk 27 rfl (fun w hSw => by (try dsimp only at hSw); go_simp; try with_reducible rfl) ?_
            go_frame
            refine tk 28 rfl (fun w hSw => by (try dsimp only at hSw); go_simp; try with_reducible rfl) ?_
            go_frame
            refine tk 29 rfl (fun w hSw => by (try dsimp only at hSw); go_simp; try with_reducible rfl) ?_
            go_frame
            refine wpAnyH_done (by kernel_rfl) ?_ _
            replace HT := Lib.hid (HT.out.trans (HX.out.mono HT.out.size))
            replace HL11 := Lib.hid (HL11.out.below HX.out)
            clear hHeld HSK HX HL12 HL14 hq
            have HL11S := Lib.hid (show b11 < wv.heap.size from HL11.out.1)
            go_wp2_with fail
            refine (gcopy_gg wv lo p rb c m G (HG.out.below HT.out) HD.out).mono ?_
            rintro e w16 ⟨p2, rb2, c2, rfl, g2, bz⟩
            obtain ⟨lo2, hlo2⟩ : ∃ l, l = wv.heap.size := ⟨_, rfl⟩
            rw [← hlo2] at g2
            have HG2' := Lib.hid g2
            have HTP := HT
            replace HL11 := Lib.hid (HL11.out.below bz)
            replace HT := Lib.hid (HT.out.trans (bz.mono HT.out.size))
            have HLO2 := Lib.hid (show wr.heap.size ≤ lo2 by rw [hlo2]; exact HTP.out.size)
            have HL2S := Lib.hid (show lo2 ≤ w16.heap.size by rw [hlo2]; exact bz.size)
            have HB11 := Lib.hid (show b11 ≠ rb2 by have h1 := g2.lt.2.2.1; have h2 := HL11S.out; omega)
            clear g2 bz hlo2 HTP HL11S
            have y0 := HL11.out.at 0 rfl
            go_wp2_with fail
            refine (gset_gg w16 lo2 p2 rb2 c2 m k0 cap aa G pr RW HG2'.out HD.out HL2S.out (HRAW.out.below HT.out) HRL.out).mono ?_
            rintro e w18 ⟨rfl, g2, bt⟩
            rw [← HN.out, HIR.out]
            have HG2 := Lib.hid g2
            have HD2 := Lib.hid (setRG_siz HD.out pr RW)
            replace HL11 := Lib.hid (HL11.out.buts bt HB11.out)
            replace HT := Lib.hid (show Below wr.heap.size wr w18 from HT.out.trans (bt.below (C := wr.heap.size) (fun i hi => by have h1 := HG2'.out.lt.2.2.1; have h2 := HLO2.out; omega) HT.out.size))
            clear g2 bt HG2' HLO2 HL2S HB11 y0
            have HSK := Lib.hid (show ∀ W, Below w18.heap.size w18 W → (fun wx => wx.cell? ⟨b7, 0, none⟩ = some (.slice (some ⟨gL, 0, none⟩) n vc) ∧ wx.cell? ⟨b11, 0, none⟩ = some (.int .i64 pr) ∧ wx.cell? ⟨gL, 0, none⟩ = some (.slice xa m xc)) W from fun W kb => ⟨(HL7.out.below (HT.out.trans (kb.mono HT.out.size))).at 0 rfl, (HL11.out.below kb).at 0 rfl, (HHD.out _ (HT.out.trans (kb.mono HT.out.size))).1⟩)
            by_cases hkm : k0 = m
            · have hkd : decide (k0 = m) = true := decide_eq_true hkm
              have hkq : ((k0 : Int) == (m : Int)) = true := by simp [hkm]
              rw [hkd]
              clear hkm
              go_upto_region 18 with (fail)
              refine wp_region_held_drew (S := fun wx => wx.cell? ⟨b7, 0, none⟩ = some (.slice (some ⟨gL, 0, none⟩) n vc) ∧ wx.cell? ⟨b11, 0, none⟩ = some (.int .i64 pr) ∧ wx.cell? ⟨gL, 0, none⟩ = some (.slice xa m xc)) (by kernel_rfl) ?_ (fun hHeld => ?_)
              · exact HSK.out _ ((Below.refl _ _).drew)
              obtain ⟨wd, hwd⟩ : ∃ X, X = w18.drew := ⟨_, rfl⟩
              have HX := Lib.hid (show Below w18.heap.size w18 wd by rw [hwd]; exact (Below.refl _ _).drew)
              replace hHeld := HSK.out _ HX.out
              rw [← hwd]
              clear hwd
              refine tk 0 rfl (fun w hSw => by (try dsimp only at hSw); go_simp; try with_reducible rfl) ?_
              go_frame
              refine tk 1 rfl (fun w hSw => by (try dsimp only at hSw); go_simp; try with_reducible rfl) ?_
              go_frame
              refine tk 2 rfl (fun w hSw => by (try dsimp only at hSw); go_simp; try with_reducible rfl) ?_
              go_frame
              refine tk 3 rfl (fun w hSw => by (try dsimp only at hSw); go_simp; try with_reducible rfl) ?_
              go_frame
              refine tk 4 rfl (fun w hSw => by (try dsimp only at hSw); go_simp; try with_reducible rfl) ?_
              go_frame
              refine tk 5 rfl (fun w hSw => by (try dsimp only at hSw); go_simp; try with_reducible rfl) ?_
              go_frame
              refine tk 6 rfl (fun w hSw => by (try dsimp only at hSw); go_simp; try with_reducible rfl) ?_
              go_frame
              refine tk 7 rfl (fun w hSw => by (try dsimp only at hSw); go_simp; try with_reducible rfl) ?_
              go_frame
              refine tk 8 rfl (fun w hSw => by (try dsimp only at hSw); go_simp; try with_reducible rfl) ?_
              go_frame
              refine tk 9 rfl (fun w hSw => by (try dsimp only at hSw); go_simp; try with_reducible rfl) ?_
              go_frame
              refine tk 10 rfl (fun w hSw => by (try dsimp only at hSw); go_simp; try with_reducible rfl) ?_
              go_frame
              refine tk 11 rfl (fun w hSw => by (try dsimp only at hSw); go_simp; try with_reducible rfl) ?_
              go_frame
              refine tk 12 rfl (fun w hSw => by (try dsimp only at hSw); go_simp; try with_reducible rfl) ?_
              go_frame
              refine tk 13 rfl (fun w hSw => by (try dsimp only at hSw); go_simp; try with_reducible rfl) ?_
              go_frame
              refine tk 14 rfl (fun w hSw => by (try dsimp only at hSw); go_simp; try with_reducible rfl) ?_
              go_frame
              refine tk 15 rfl (fun w hSw => by (try dsimp only at hSw); go_simp; try with_reducible rfl) ?_
              go_frame
              refine tk 16 rfl (fun w hSw => by (try dsimp only at hSw); go_simp; try with_reducible rfl) ?_
              go_frame
              refine tk 17 rfl (fun w hSw => by (try dsimp only at hSw); go_simp; try with_reducible rfl) ?_
              go_frame
              refine tk 18 rfl (fun w hSw => by (try dsimp only at hSw); go_simp; try with_reducible rfl) ?_
              go_frame
              refine tk 19 rfl (fun w hSw => by (try dsimp only at hSw); go_simp; try with_reducible rfl) ?_
              go_frame
              refine tk 20 rfl (fun w hSw => by (try dsimp only at hSw); go_simp; try with_reducible rfl) ?_
              go_frame
              refine tk 21 rfl (fun w hSw => by (try dsimp only at hSw); go_simp; try with_reducible rfl) ?_
              go_frame
              refine tk 22 rfl (fun w hSw => by (try dsimp only at hSw); go_simp; try with_reducible rfl) ?_
              go_frame
              refine tk 23 rfl (fun w hSw => by (try dsimp only at hSw); go_simp; try with_reducible rfl) ?_
              go_frame
              refine tk 24 rfl (fun w hSw => by (try dsimp only at hSw); go_simp; try with_reducible rfl) ?_
              go_frame
              refine tk 26 rfl (fun w hSw => by (try dsimp only at hSw); go_simp; try with_reducible rfl) ?_
              go_frame
              refine tk 27 rfl (fun w hSw => by (try dsimp only at hSw); go_simp; try with_reducible rfl) ?_
              go_frame
              refine tk 28 rfl (fun w hSw => by (try dsimp only at hSw); go_simp; try with_reducible rfl) ?_
              go_frame
              refine tk 29 rfl (fun w hSw => by (try dsimp only at hSw); go_simp; try with_reducible rfl) ?_
              go_frame
              refine do_at (i := 25) rfl (by kernel_rfl) (by kernel_rfl) (fun K hK => ?_)
              go_simp
              refine (rows_raw wd lo2 p2 rb2 c2 m _ (HG2.out.below HX.out) HD2.out).mono ?_
              rintro e wu ⟨vs, Ks, rfl, ks, hks, _, bz⟩
              have HVS := Lib.hid (show Rl wu _ vs (setRG G pr RW) from ⟨Ks, ks, hks⟩)
              clear ks hks
              replace HX := Lib.hid (HX.out.trans (bz.mono HX.out.size))
              clear bz
              go_wp2_with fail
              refine hK.out _ _ ?_ (fun hHeld => ?_)
              · exact HSK.out _ HX.out
              clear hK K
              try go_frame
              refine do_at (i := 30) rfl (by kernel_rfl) (by kernel_rfl) (fun K hK => ?_)
              go_simp
              refine (rset_any wu loL loL (.slice (some ⟨gL, 0, none⟩) n vc) KL pr (.slice aa k0 cap) RW (HKL.out.below (HT.out.trans (HX.out.mono HT.out.size))) (by have := HKN.out; have := HN.out; have := HD.out.n0; omega) (by have := HKN.out; have := HN.out; have := HD.out.n1; omega) (Nat.le_trans HLOL.out (HT.out.trans (HX.out.mono HT.out.size)).size) (HRAW.out.below (HT.out.trans (HX.out.mono HT.out.size))) HRL.out HM0.out).mono ?_
              rintro e wv ⟨v', K', rfl, k1, k2, bz⟩
              rw [HKM.out] at k2
              have HVR := Lib.hid (show Rl wv loL v' (setRG G pr RW) from ⟨K', k1.lower (Nat.le_refl _) (Nat.le_trans HLOL.out (HT.out.trans (HX.out.mono HT.out.size)).size), k2⟩)
              have hfr : ∀ W : World, (Instr.field 29 (.agg #[v']) 0).run Try.prog W = .ok v' W := fun _ => by kernel_rfl
              replace HVS := Lib.hid (HVS.out.below bz)
              clear k1 k2
              replace HX := Lib.hid (HX.out.trans (bz.mono HX.out.size))
              clear bz
              go_wp2_with fail
              refine hK.out _ _ ?_ (fun hHeld => ?_)
              · exact HSK.out _ HX.out
              clear hK K
              try go_frame
              refine tk 31 rfl (fun w hSw => by (try dsimp only at hSw); go_simp; try with_reducible rfl) ?_
              go_frame
              refine do_at (i := 32) rfl (by kernel_rfl) (by kernel_rfl) (fun K hK => ?_)
              go_simp
              refine (rsames_yes wv _ _ vs v' _ HVS.out HVR.out (by have := HD2.out.n1; omega) (fun R hR => by have := HD2.out.row R hR; have := HD2.out.m1; omega)).mono ?_
              rintro e wz ⟨rfl, bz⟩
              replace HX := Lib.hid (HX.out.trans (bz.mono HX.out.size))
              clear bz
              go_wp2_with fail
              refine hK.out _ _ ?_ (fun hHeld => ?_)
              · exact HSK.out _ HX.out
              clear hK K
              try go_frame
              refine tk 33 rfl (fun w hSw => by (try dsimp only at hSw); go_simp; try with_reducible rfl) ?_
              go_frame
              refine tk 34 rfl (fun w hSw => by (try dsimp only at hSw); go_simp; try with_reducible rfl) ?_
              go_frame
              refine wpAnyH_done (by kernel_rfl) ?_ _
              have HTE := Lib.hid (HTW.out.trans ((HT.out.trans (HX.out.mono HT.out.size)).mono HTW.out.size))
              clear hHeld HSK HX HVS HVR HT HG2 HD2 HL11 hfr
              go_wp2
              go_roundg (3 - (k + 1))
              case rel => exact ⟨k + 1, by go_num, HLT.out, Nat.le_refl _, HTE⟩
              case measure => have := HLT.out; omega
            · have hkd : decide (k0 = m) = false := decide_eq_false hkm
              have hkq : ((k0 : Int) == (m : Int)) = false := by simp; omega
              rw [hkd]
              clear hkm
              go_upto_region 18 with (fail)
              refine wp_region_held_drew (S := fun wx => wx.cell? ⟨b7, 0, none⟩ = some (.slice (some ⟨gL, 0, none⟩) n vc) ∧ wx.cell? ⟨b11, 0, none⟩ = some (.int .i64 pr) ∧ wx.cell? ⟨gL, 0, none⟩ = some (.slice xa m xc)) (by kernel_rfl) ?_ (fun hHeld => ?_)
              · exact HSK.out _ ((Below.refl _ _).drew)
              obtain ⟨wd, hwd⟩ : ∃ X, X = w18.drew := ⟨_, rfl⟩
              have HX := Lib.hid (show Below w18.heap.size w18 wd by rw [hwd]; exact (Below.refl _ _).drew)
              replace hHeld := HSK.out _ HX.out
              rw [← hwd]
              clear hwd
              refine tk 0 rfl (fun w hSw => by (try dsimp only at hSw); go_simp; try with_reducible rfl) ?_
              go_frame
              refine tk 1 rfl (fun w hSw => by (try dsimp only at hSw); go_simp; try with_reducible rfl) ?_
              go_frame
              refine tk 2 rfl (fun w hSw => by (try dsimp only at hSw); go_simp; try with_reducible rfl) ?_
              go_frame
              refine tk 3 rfl (fun w hSw => by (try dsimp only at hSw); go_simp; try with_reducible rfl) ?_
              go_frame
              refine tk 4 rfl (fun w hSw => by (try dsimp only at hSw); go_simp; try with_reducible rfl) ?_
              go_frame
              refine tk 5 rfl (fun w hSw => by (try dsimp only at hSw); go_simp; try with_reducible rfl) ?_
              go_frame
              refine tk 6 rfl (fun w hSw => by (try dsimp only at hSw); go_simp; try with_reducible rfl) ?_
              go_frame
              refine tk 7 rfl (fun w hSw => by (try dsimp only at hSw); go_simp; try with_reducible rfl) ?_
              go_frame
              refine tk 8 rfl (fun w hSw => by (try dsimp only at hSw); go_simp; try with_reducible rfl) ?_
              go_frame
              refine tk 9 rfl (fun w hSw => by (try dsimp only at hSw); go_simp; try with_reducible rfl) ?_
              go_frame
              refine tk 10 rfl (fun w hSw => by (try dsimp only at hSw); go_simp; try with_reducible rfl) ?_
              go_frame
              refine tk 11 rfl (fun w hSw => by (try dsimp only at hSw); go_simp; try with_reducible rfl) ?_
              go_frame
              refine tk 12 rfl (fun w hSw => by (try dsimp only at hSw); go_simp; try with_reducible rfl) ?_
              go_frame
              refine tk 13 rfl (fun w hSw => by (try dsimp only at hSw); go_simp; try with_reducible rfl) ?_
              go_frame
              refine tk 14 rfl (fun w hSw => by (try dsimp only at hSw); go_simp; try with_reducible rfl) ?_
              go_frame
              refine tk 15 rfl (fun w hSw => by (try dsimp only at hSw); go_simp; try with_reducible rfl) ?_
              go_frame
              refine tk 16 rfl (fun w hSw => by (try dsimp only at hSw); go_simp; try with_reducible rfl) ?_
              go_frame
              refine tk 17 rfl (fun w hSw => by (try dsimp only at hSw); go_simp; try with_reducible rfl) ?_
              go_frame
              refine tk 18 rfl (fun w hSw => by (try dsimp only at hSw); go_simp; try with_reducible rfl) ?_
              go_frame
              refine tk 19 rfl (fun w hSw => by (try dsimp only at hSw); go_simp; try with_reducible rfl) ?_
              go_frame
              refine tk 20 rfl (fun w hSw => by (try dsimp only at hSw); go_simp; try with_reducible rfl) ?_
              go_frame
              refine tk 21 rfl (fun w hSw => by (try dsimp only at hSw); go_simp; try with_reducible rfl) ?_
              go_frame
              refine tk 22 rfl (fun w hSw => by (try dsimp only at hSw); go_simp; try with_reducible rfl) ?_
              go_frame
              refine tk 23 rfl (fun w hSw => by (try dsimp only at hSw); go_simp; try with_reducible rfl) ?_
              go_frame
              refine tk 24 rfl (fun w hSw => by (try dsimp only at hSw); go_simp; try with_reducible rfl) ?_
              go_frame
              refine tk 26 rfl (fun w hSw => by (try dsimp only at hSw); go_simp; try with_reducible rfl) ?_
              go_frame
              refine tk 27 rfl (fun w hSw => by (try dsimp only at hSw); go_simp; try with_reducible rfl) ?_
              go_frame
              refine tk 28 rfl (fun w hSw => by (try dsimp only at hSw); go_simp; try with_reducible rfl) ?_
              go_frame
              refine tk 29 rfl (fun w hSw => by (try dsimp only at hSw); go_simp; try with_reducible rfl) ?_
              go_frame
              refine do_at (i := 25) rfl (by kernel_rfl) (by kernel_rfl) (fun K hK => ?_)
              go_simp
              refine (rows_raw wd lo2 p2 rb2 c2 m _ (HG2.out.below HX.out) HD2.out).mono ?_
              rintro e wu ⟨vs, Ks, rfl, ks, hks, _, bz⟩
              have HVS := Lib.hid (show Rl wu _ vs (setRG G pr RW) from ⟨Ks, ks, hks⟩)
              clear ks hks
              replace HX := Lib.hid (HX.out.trans (bz.mono HX.out.size))
              clear bz
              go_wp2_with fail
              refine hK.out _ _ ?_ (fun hHeld => ?_)
              · exact HSK.out _ HX.out
              clear hK K
              try go_frame
              refine do_at (i := 30) rfl (by kernel_rfl) (by kernel_rfl) (fun K hK => ?_)
              go_simp
              refine (rset_any wu loL loL (.slice (some ⟨gL, 0, none⟩) n vc) KL pr (.slice aa k0 cap) RW (HKL.out.below (HT.out.trans (HX.out.mono HT.out.size))) (by have := HKN.out; have := HN.out; have := HD.out.n0; omega) (by have := HKN.out; have := HN.out; have := HD.out.n1; omega) (Nat.le_trans HLOL.out (HT.out.trans (HX.out.mono HT.out.size)).size) (HRAW.out.below (HT.out.trans (HX.out.mono HT.out.size))) HRL.out HM0.out).mono ?_
              rintro e wv ⟨v', K', rfl, k1, k2, bz⟩
              rw [HKM.out] at k2
              have HVR := Lib.hid (show Rl wv loL v' (setRG G pr RW) from ⟨K', k1.lower (Nat.le_refl _) (Nat.le_trans HLOL.out (HT.out.trans (HX.out.mono HT.out.size)).size), k2⟩)
              have hfr : ∀ W : World, (Instr.field 29 (.agg #[v']) 0).run Try.prog W = .ok v' W := fun _ => by kernel_rfl
              replace HVS := Lib.hid (HVS.out.below bz)
              clear k1 k2
              replace HX := Lib.hid (HX.out.trans (bz.mono HX.out.size))
              clear bz
              go_wp2_with fail
              refine hK.out _ _ ?_ (fun hHeld => ?_)
              · exact HSK.out _ HX.out
              clear hK K
              try go_frame
              refine tk 31 rfl (fun w hSw => by (try dsimp only at hSw); go_simp; try with_reducible rfl) ?_
              go_frame
              refine do_at (i := 32) rfl (by kernel_rfl) (by kernel_rfl) (fun K hK => ?_)
              go_simp
              refine (rsames_yes wv _ _ vs v' _ HVS.out HVR.out (by have := HD2.out.n1; omega) (fun R hR => by have := HD2.out.row R hR; have := HD2.out.m1; omega)).mono ?_
              rintro e wz ⟨rfl, bz⟩
              replace HX := Lib.hid (HX.out.trans (bz.mono HX.out.size))
              clear bz
              go_wp2_with fail
              refine hK.out _ _ ?_ (fun hHeld => ?_)
              · exact HSK.out _ HX.out
              clear hK K
              try go_frame
              refine tk 33 rfl (fun w hSw => by (try dsimp only at hSw); go_simp; try with_reducible rfl) ?_
              go_frame
              refine tk 34 rfl (fun w hSw => by (try dsimp only at hSw); go_simp; try with_reducible rfl) ?_
              go_frame
              refine wpAnyH_done (by kernel_rfl) ?_ _
              have HTE := Lib.hid (HTW.out.trans ((HT.out.trans (HX.out.mono HT.out.size)).mono HTW.out.size))
              clear hHeld HSK HX HVS HVR HT HG2 HD2 HL11 hfr
              go_wp2
              go_roundg (3 - (k + 1))
              case rel => exact ⟨k + 1, by go_num, HLT.out, Nat.le_refl _, HTE⟩
              case measure => have := HLT.out; omega
      | false =>
        by_cases hge : 0 ≤ pr
        · as_aux_lemma =>
            have HIR := Lib.hid hIR
            have HIP := Lib.hid (show (isInB pr n && isInB pc m) = false by rw [hIR]; rfl)
            have HC1E := Lib.hid (show c1 = Cel.z by rw [HC1.out]; unfold atM; rw [← HN.out, HIP.out, if_neg (by decide)])
            have hnl : ¬ pr < (n : Int) := fun h => by unfold isInB at hIR; rw [decide_eq_true hge, decide_eq_true h] at hIR; exact absurd hIR (by decide)
            have hge1 : decide (0 ≤ pr) = true := decide_eq_true hge
            have hlt1 : decide (pr < (n : Int)) = false := decide_eq_false hnl
            clear hIR
            have y7 := (HL7.out.below HT.out).at 0 rfl
            have y0 := HL11.out.at 0 rfl
            have y1 := HL11.out.at 1 rfl
            go_wp2_with fail
            refine (Is_any w12 gL n vc m xc xa pr pc (HHD.out _ HT.out).1 (HHD.out _ HT.out).2).mono ?_
            rintro e w13 ⟨rfl, bz⟩
            rw [HIP.out]
            replace HL11 := Lib.hid (HL11.out.below bz)
            replace HL12 := Lib.hid (HL12.out.below bz)
            replace HV14 := Lib.hid ((bz.block b14 (Array.getElem?_eq_some_iff.1 HV14.out).1).trans HV14.out)
            replace HT := Lib.hid (HT.out.trans (bz.mono HT.out.size))
            clear bz y7 y0 y1
            have HL14 := Lib.hid (show Lie w13 b14 [.int .i32 c1.ru, .int .i32 c1.m0, .int .i32 c1.m1, .int .u8 c1.k, .int .u8 c1.a.fg.k, .int .u8 c1.a.fg.r, .int .u8 c1.a.fg.g, .int .u8 c1.a.fg.b, .int .u8 c1.a.bg.k, .int .u8 c1.a.bg.r, .int .u8 c1.a.bg.g, .int .u8 c1.a.bg.b, .int .u16 (c1.a.fl : Nat), .int .u8 c1.l] by rw [HC1E.out]; exact Lie.of HV14.out)
            clear HV14
            have HSK := Lib.hid (show ∀ W, Below w13.heap.size w13 W → (fun wx => wx.cell? ⟨b7, 0, none⟩ = some (.slice (some ⟨gL, 0, none⟩) n vc) ∧ wx.cell? ⟨b11, 0, none⟩ = some (.int .i64 pr) ∧ wx.cell? ⟨b11, 1, none⟩ = some (.int .i64 pc) ∧ wx.cell? ⟨b12, 0, none⟩ = some (.int .i32 c1.ru) ∧ wx.cell? ⟨b12, 1, none⟩ = some (.int .i32 c1.m0) ∧ wx.cell? ⟨b12, 2, none⟩ = some (.int .i32 c1.m1) ∧ wx.cell? ⟨b12, 3, none⟩ = some (.int .u8 c1.k) ∧ wx.cell? ⟨b12, 4, none⟩ = some (.int .u8 c1.a.fg.k) ∧ wx.cell? ⟨b12, 5, none⟩ = some (.int .u8 c1.a.fg.r) ∧ wx.cell? ⟨b12, 6, none⟩ = some (.int .u8 c1.a.fg.g) ∧ wx.cell? ⟨b12, 7, none⟩ = some (.int .u8 c1.a.fg.b) ∧ wx.cell? ⟨b12, 8, none⟩ = some (.int .u8 c1.a.bg.k) ∧ wx.cell? ⟨b12, 9, none⟩ = some (.int .u8 c1.a.bg.r) ∧ wx.cell? ⟨b12, 10, none⟩ = some (.int .u8 c1.a.bg.g) ∧ wx.cell? ⟨b12, 11, none⟩ = some (.int .u8 c1.a.bg.b) ∧ wx.cell? ⟨b12, 12, none⟩ = some (.int .u16 (c1.a.fl : Nat)) ∧ wx.cell? ⟨b12, 13, none⟩ = some (.int .u8 c1.l) ∧ wx.cell? ⟨b14, 0, none⟩ = some (.int .i32 c1.ru) ∧ wx.cell? ⟨b14, 1, none⟩ = some (.int .i32 c1.m0) ∧ wx.cell? ⟨b14, 2, none⟩ = some (.int .i32 c1.m1) ∧ wx.cell? ⟨b14, 3, none⟩ = some (.int .u8 c1.k) ∧ wx.cell? ⟨b14, 4, none⟩ = some (.int .u8 c1.a.fg.k) ∧ wx.cell? ⟨b14, 5, none⟩ = some (.int .u8 c1.a.fg.r) ∧ wx.cell? ⟨b14, 6, none⟩ = some (.int .u8 c1.a.fg.g) ∧ wx.cell? ⟨b14, 7, none⟩ = some (.int .u8 c1.a.fg.b) ∧ wx.cell? ⟨b14, 8, none⟩ = some (.int .u8 c1.a.bg.k) ∧ wx.cell? ⟨b14, 9, none⟩ = some (.int .u8 c1.a.bg.r) ∧ wx.cell? ⟨b14, 10, none⟩ = some (.int .u8 c1.a.bg.g) ∧ wx.cell? ⟨b14, 11, none⟩ = some (.int .u8 c1.a.bg.b) ∧ wx.cell? ⟨b14, 12, none⟩ = some (.int .u16 (c1.a.fl : Nat)) ∧ wx.cell? ⟨b14, 13, none⟩ = some (.int .u8 c1.l)) W from fun W kb => ⟨(HL7.out.below (HT.out.trans (kb.mono HT.out.size))).at 0 rfl, (HL11.out.below kb).at 0 rfl, (HL11.out.below kb).at 1 rfl, (HL12.out.below kb).at 0 rfl, (HL12.out.below kb).at 1 rfl, (HL12.out.below kb).at 2 rfl, (HL12.out.below kb).at 3 rfl, (HL12.out.below kb).at 4 rfl, (HL12.out.below kb).at 5 rfl, (HL12.out.below kb).at 6 rfl, (HL12.out.below kb).at 7 rfl, (HL12.out.below kb).at 8 rfl, (HL12.out.below kb).at 9 rfl, (HL12.out.below kb).at 10 rfl, (HL12.out.below kb).at 11 rfl, (HL12.out.below kb).at 12 rfl, (HL12.out.below kb).at 13 rfl, (HL14.out.below kb).at 0 rfl, (HL14.out.below kb).at 1 rfl, (HL14.out.below kb).at 2 rfl, (HL14.out.below kb).at 3 rfl, (HL14.out.below kb).at 4 rfl, (HL14.out.below kb).at 5 rfl, (HL14.out.below kb).at 6 rfl, (HL14.out.below kb).at 7 rfl, (HL14.out.below kb).at 8 rfl, (HL14.out.below kb).at 9 rfl, (HL14.out.below kb).at 10 rfl, (HL14.out.below kb).at 11 rfl, (HL14.out.below kb).at 12 rfl, (HL14.out.below kb).at 13 rfl⟩)
            have hq : ∀ w : World, (Op.equalIn 10000 42 (celV c1) (celV c1)).run Try.prog w = .ok true w := fun w => by rw [eqCel, decide_eq_true rfl]
            go_upto_region 14 with (fail)
            refine wp_region_held_drew (S := fun wx => wx.cell? ⟨b7, 0, none⟩ = some (.slice (some ⟨gL, 0, none⟩) n vc) ∧ wx.cell? ⟨b11, 0, none⟩ = some (.int .i64 pr) ∧ wx.cell? ⟨b11, 1, none⟩ = some (.int .i64 pc) ∧ wx.cell? ⟨b12, 0, none⟩ = some (.int .i32 c1.ru) ∧ wx.cell? ⟨b12, 1, none⟩ = some (.int .i32 c1.m0) ∧ wx.cell? ⟨b12, 2, none⟩ = some (.int .i32 c1.m1) ∧ wx.cell? ⟨b12, 3, none⟩ = some (.int .u8 c1.k) ∧ wx.cell? ⟨b12, 4, none⟩ = some (.int .u8 c1.a.fg.k) ∧ wx.cell? ⟨b12, 5, none⟩ = some (.int .u8 c1.a.fg.r) ∧ wx.cell? ⟨b12, 6, none⟩ = some (.int .u8 c1.a.fg.g) ∧ wx.cell? ⟨b12, 7, none⟩ = some (.int .u8 c1.a.fg.b) ∧ wx.cell? ⟨b12, 8, none⟩ = some (.int .u8 c1.a.bg.k) ∧ wx.cell? ⟨b12, 9, none⟩ = some (.int .u8 c1.a.bg.r) ∧ wx.cell? ⟨b12, 10, none⟩ = some (.int .u8 c1.a.bg.g) ∧ wx.cell? ⟨b12, 11, none⟩ = some (.int .u8 c1.a.bg.b) ∧ wx.cell? ⟨b12, 12, none⟩ = some (.int .u16 (c1.a.fl : Nat)) ∧ wx.cell? ⟨b12, 13, none⟩ = some (.int .u8 c1.l) ∧ wx.cell? ⟨b14, 0, none⟩ = some (.int .i32 c1.ru) ∧ wx.cell? ⟨b14, 1, none⟩ = some (.int .i32 c1.m0) ∧ wx.cell? ⟨b14, 2, none⟩ = some (.int .i32 c1.m1) ∧ wx.cell? ⟨b14, 3, none⟩ = some (.int .u8 c1.k) ∧ wx.cell? ⟨b14, 4, none⟩ = some (.int .u8 c1.a.fg.k) ∧ wx.cell? ⟨b14, 5, none⟩ = some (.int .u8 c1.a.fg.r) ∧ wx.cell? ⟨b14, 6, none⟩ = some (.int .u8 c1.a.fg.g) ∧ wx.cell? ⟨b14, 7, none⟩ = some (.int .u8 c1.a.fg.b) ∧ wx.cell? ⟨b14, 8, none⟩ = some (.int .u8 c1.a.bg.k) ∧ wx.cell? ⟨b14, 9, none⟩ = some (.int .u8 c1.a.bg.r) ∧ wx.cell? ⟨b14, 10, none⟩ = some (.int .u8 c1.a.bg.g) ∧ wx.cell? ⟨b14, 11, none⟩ = some (.int .u8 c1.a.bg.b) ∧ wx.cell? ⟨b14, 12, none⟩ = some (.int .u16 (c1.a.fl : Nat)) ∧ wx.cell? ⟨b14, 13, none⟩ = some (.int .u8 c1.l)) (by kernel_rfl) ?_ (fun hHeld => ?_)
            · exact HSK.out _ ((Below.refl _ _).drew)
            obtain ⟨wd, hwd⟩ : ∃ X, X = w13.drew := ⟨_, rfl⟩
            have HX := Lib.hid (show Below w13.heap.size w13 wd by rw [hwd]; exact (Below.refl _ _).drew)
            replace hHeld := HSK.out _ HX.out
            rw [← hwd]
            clear hwd
            refine tk 0 rfl (fun w hSw => by (try dsimp only at hSw); go_simp; try with_reducible rfl) ?_
            go_frame
            refine tk 1 rfl (fun w hSw => by (try dsimp only at hSw); go_simp; try with_reducible rfl) ?_
            go_frame
            refine tk 2 rfl (fun w hSw => by (try dsimp only at hSw); go_simp; try with_reducible rfl) ?_
            go_frame
            refine do_at (i := 3) rfl (by kernel_rfl) (by kernel_rfl) (fun K hK => ?_)
            go_simp
            refine (Is_any wd gL n vc m xc xa pr pc (HHD.out _ (HT.out.trans (HX.out.mono HT.out.size))).1 (HHD.out _ (HT.out.trans (HX.out.mono HT.out.size))).2).mono ?_
            rintro e wu ⟨rfl, bz⟩
            rw [HIP.out]
            replace HX := Lib.hid (HX.out.trans (bz.mono HX.out.size))
            clear bz
            go_wp2_with fail
            refine hK.out _ _ ?_ (fun hHeld => ?_)
            · exact HSK.out _ HX.out
            clear hK K
            try go_frame
            refine tk 4 rfl (fun w hSw => by (try dsimp only at hSw); go_simp; try with_reducible rfl) ?_
            go_frame
            refine tk 5 rfl (fun w hSw => by (try dsimp only at hSw); go_simp; try with_reducible rfl) ?_
            go_frame
            refine tk 6 rfl (fun w hSw => by (try dsimp only at hSw); go_simp; try with_reducible rfl) ?_
            go_frame
            refine tk 7 rfl (fun w hSw => by (try dsimp only at hSw); go_simp; try with_reducible rfl) ?_
            go_frame
            refine tk 8 rfl (fun w hSw => by (try dsimp only at hSw); go_simp; try with_reducible rfl) ?_
            go_frame
            refine tk 9 rfl (fun w hSw => by (try dsimp only at hSw); go_simp; try with_reducible rfl) ?_
            go_frame
            refine tk 10 rfl (fun w hSw => by (try dsimp only at hSw); go_simp; try with_reducible rfl) ?_
            go_frame
            refine tk 11 rfl (fun w hSw => by (try dsimp only at hSw); go_simp; try with_reducible rfl) ?_
            go_frame
            refine tk 12 rfl (fun w hSw => by (try dsimp only at hSw); go_simp; try with_reducible rfl) ?_
            go_frame
            refine tk 13 rfl (fun w hSw => by (try dsimp only at hSw); go_simp; try with_reducible rfl) ?_
            go_frame
            refine tk 17 rfl (fun w hSw => by (try dsimp only at hSw); go_simp; try with_reducible rfl) ?_
            go_frame
            refine tk 18 rfl (fun w hSw => by (try dsimp only at hSw); go_simp; try with_reducible rfl) ?_
            go_frame
            refine tk 19 rfl (fun w hSw => by (try dsimp only at hSw); go_simp; try with_reducible rfl) ?_
            go_frame
            refine do_at (i := 14) rfl (by kernel_rfl) (by kernel_rfl) (fun K hK => ?_)
            go_simp
            refine (grow_len wu lo p rb c m G pr (HG.out.below (HT.out.trans (HX.out.mono HT.out.size))) HD.out).mono ?_
            rintro e wv ⟨ga, gl, gc', rfl, hl1, hl0, bz⟩
            obtain rfl := hl0 (by rw [← HN.out]; exact HIR.out)
            clear hl1
            replace HX := Lib.hid (HX.out.trans (bz.mono HX.out.size))
            clear bz
            go_wp2_with fail
            refine hK.out _ _ ?_ (fun hHeld => ?_)
            · exact HSK.out _ HX.out
            clear hK K
            try go_frame
            refine tk 15 rfl (fun w hSw => by (try dsimp only at hSw); go_simp; try with_reducible rfl) ?_
            go_frame
            refine tk 16 rfl (fun w hSw => by (try dsimp only at hSw); go_simp; try with_reducible rfl) ?_
            go_frame
            refine tk 20 rfl (fun w hSw => by (try dsimp only at hSw); go_simp; try with_reducible rfl) ?_
            go_frame
            refine tk 21 rfl (fun w hSw => by (try dsimp only at hSw); go_simp; try with_reducible rfl) ?_
            go_frame
            refine tk 22 rfl (fun w hSw => by (try dsimp only at hSw); go_simp; try with_reducible rfl) ?_
            go_frame
            refine tk 23 rfl (fun w hSw => by (try dsimp only at hSw); go_simp; try with_reducible rfl) ?_
            go_frame
            refine tk 24 rfl (fun w hSw => by (try dsimp only at hSw); go_simp; try with_reducible rfl) ?_
            go_frame
            refine tk 25 rfl (fun w hSw => by (try dsimp only at hSw); go_simp; try with_reducible rfl) ?_
            go_frame
            refine tk 26 rfl (fun w hSw => by (try dsimp only at hSw); go_simp; try with_reducible rfl) ?_
            go_frame
            refine tk 27 rfl (fun w hSw => by (try dsimp only at hSw); go_simp; try with_reducible rfl) ?_
            go_frame
            refine tk 28 rfl (fun w hSw => by (try dsimp only at hSw); go_simp; try with_reducible rfl) ?_
            go_frame
            refine tk 29 rfl (fun w hSw => by (try dsimp only at hSw); go_simp; try with_reducible rfl) ?_
            go_frame
            refine wpAnyH_done (by kernel_rfl) ?_ _
            replace HT := Lib.hid (HT.out.trans (HX.out.mono HT.out.size))
            replace HL11 := Lib.hid (HL11.out.below HX.out)
            clear hHeld HSK HX HL12 HL14 hq
            have HL11S := Lib.hid (show b11 < wv.heap.size from HL11.out.1)
            go_wp2_with fail
            refine (gcopy_gg wv lo p rb c m G (HG.out.below HT.out) HD.out).mono ?_
            rintro e w16 ⟨p2, rb2, c2, rfl, g2, bz⟩
            obtain ⟨lo2, hlo2⟩ : ∃ l, l = wv.heap.size := ⟨_, rfl⟩
            rw [← hlo2] at g2
            have HG2' := Lib.hid g2
            have HTP := HT
            replace HL11 := Lib.hid (HL11.out.below bz)
            replace HT := Lib.hid (HT.out.trans (bz.mono HT.out.size))
            have HLO2 := Lib.hid (show wr.heap.size ≤ lo2 by rw [hlo2]; exact HTP.out.size)
            have HL2S := Lib.hid (show lo2 ≤ w16.heap.size by rw [hlo2]; exact bz.size)
            have HB11 := Lib.hid (show b11 ≠ rb2 by have h1 := g2.lt.2.2.1; have h2 := HL11S.out; omega)
            clear g2 bz hlo2 HTP HL11S
            have y0 := HL11.out.at 0 rfl
            go_wp2_with fail
            refine (gset_gg w16 lo2 p2 rb2 c2 m k0 cap aa G pr RW HG2'.out HD.out HL2S.out (HRAW.out.below HT.out) HRL.out).mono ?_
            rintro e w18 ⟨rfl, g2, bt⟩
            rw [← HN.out, HIR.out]
            have HG2 := Lib.hid g2
            have HD2 := Lib.hid (setRG_siz HD.out pr RW)
            replace HL11 := Lib.hid (HL11.out.buts bt HB11.out)
            replace HT := Lib.hid (show Below wr.heap.size wr w18 from HT.out.trans (bt.below (C := wr.heap.size) (fun i hi => by have h1 := HG2'.out.lt.2.2.1; have h2 := HLO2.out; omega) HT.out.size))
            clear g2 bt HG2' HLO2 HL2S HB11 y0
            have HSK := Lib.hid (show ∀ W, Below w18.heap.size w18 W → (fun wx => wx.cell? ⟨b7, 0, none⟩ = some (.slice (some ⟨gL, 0, none⟩) n vc) ∧ wx.cell? ⟨b11, 0, none⟩ = some (.int .i64 pr) ∧ wx.cell? ⟨gL, 0, none⟩ = some (.slice xa m xc)) W from fun W kb => ⟨(HL7.out.below (HT.out.trans (kb.mono HT.out.size))).at 0 rfl, (HL11.out.below kb).at 0 rfl, (HHD.out _ (HT.out.trans (kb.mono HT.out.size))).1⟩)
            go_upto_region 18 with (fail)
            refine wp_region_held_drew (S := fun wx => wx.cell? ⟨b7, 0, none⟩ = some (.slice (some ⟨gL, 0, none⟩) n vc) ∧ wx.cell? ⟨b11, 0, none⟩ = some (.int .i64 pr) ∧ wx.cell? ⟨gL, 0, none⟩ = some (.slice xa m xc)) (by kernel_rfl) ?_ (fun hHeld => ?_)
            · exact HSK.out _ ((Below.refl _ _).drew)
            obtain ⟨wd, hwd⟩ : ∃ X, X = w18.drew := ⟨_, rfl⟩
            have HX := Lib.hid (show Below w18.heap.size w18 wd by rw [hwd]; exact (Below.refl _ _).drew)
            replace hHeld := HSK.out _ HX.out
            rw [← hwd]
            clear hwd
            refine tk 0 rfl (fun w hSw => by (try dsimp only at hSw); go_simp; try with_reducible rfl) ?_
            go_frame
            refine tk 1 rfl (fun w hSw => by (try dsimp only at hSw); go_simp; try with_reducible rfl) ?_
            go_frame
            refine tk 2 rfl (fun w hSw => by (try dsimp only at hSw); go_simp; try with_reducible rfl) ?_
            go_frame
            refine tk 3 rfl (fun w hSw => by (try dsimp only at hSw); go_simp; try with_reducible rfl) ?_
            go_frame
            refine tk 4 rfl (fun w hSw => by (try dsimp only at hSw); go_simp; try with_reducible rfl) ?_
            go_frame
            refine tk 5 rfl (fun w hSw => by (try dsimp only at hSw); go_simp; try with_reducible rfl) ?_
            go_frame
            refine tk 6 rfl (fun w hSw => by (try dsimp only at hSw); go_simp; try with_reducible rfl) ?_
            go_frame
            refine tk 7 rfl (fun w hSw => by (try dsimp only at hSw); go_simp; try with_reducible rfl) ?_
            go_frame
            refine tk 8 rfl (fun w hSw => by (try dsimp only at hSw); go_simp; try with_reducible rfl) ?_
            go_frame
            refine tk 9 rfl (fun w hSw => by (try dsimp only at hSw); go_simp; try with_reducible rfl) ?_
            go_frame
            refine tk 10 rfl (fun w hSw => by (try dsimp only at hSw); go_simp; try with_reducible rfl) ?_
            go_frame
            refine tk 11 rfl (fun w hSw => by (try dsimp only at hSw); go_simp; try with_reducible rfl) ?_
            go_frame
            refine tk 12 rfl (fun w hSw => by (try dsimp only at hSw); go_simp; try with_reducible rfl) ?_
            go_frame
            refine sk 13 rfl ?_
            go_frame
            refine sk 14 rfl ?_
            go_frame
            refine sk 15 rfl ?_
            go_frame
            refine sk 16 rfl ?_
            go_frame
            refine sk 17 rfl ?_
            go_frame
            refine sk 18 rfl ?_
            go_frame
            refine sk 19 rfl ?_
            go_frame
            refine sk 20 rfl ?_
            go_frame
            refine tk 21 rfl (fun w hSw => by (try dsimp only at hSw); go_simp; try with_reducible rfl) ?_
            go_frame
            refine tk 22 rfl (fun w hSw => by (try dsimp only at hSw); go_simp; try with_reducible rfl) ?_
            go_frame
            refine tk 23 rfl (fun w hSw => by (try dsimp only at hSw); go_simp; try with_reducible rfl) ?_
            go_frame
            refine tk 24 rfl (fun w hSw => by (try dsimp only at hSw); go_simp; try with_reducible rfl) ?_
            go_frame
            refine tk 26 rfl (fun w hSw => by (try dsimp only at hSw); go_simp; try with_reducible rfl) ?_
            go_frame
            refine tk 27 rfl (fun w hSw => by (try dsimp only at hSw); go_simp; try with_reducible rfl) ?_
            go_frame
            refine tk 28 rfl (fun w hSw => by (try dsimp only at hSw); go_simp; try with_reducible rfl) ?_
            go_frame
            refine tk 29 rfl (fun w hSw => by (try dsimp only at hSw); go_simp; try with_reducible rfl) ?_
            go_frame
            refine do_at (i := 25) rfl (by kernel_rfl) (by kernel_rfl) (fun K hK => ?_)
            go_simp
            refine (rows_raw wd lo2 p2 rb2 c2 m _ (HG2.out.below HX.out) HD2.out).mono ?_
            rintro e wu ⟨vs, Ks, rfl, ks, hks, _, bz⟩
            have HVS := Lib.hid (show Rl wu _ vs (setRG G pr RW) from ⟨Ks, ks, hks⟩)
            clear ks hks
            replace HX := Lib.hid (HX.out.trans (bz.mono HX.out.size))
            clear bz
            go_wp2_with fail
            refine hK.out _ _ ?_ (fun hHeld => ?_)
            · exact HSK.out _ HX.out
            clear hK K
            try go_frame
            refine do_at (i := 30) rfl (by kernel_rfl) (by kernel_rfl) (fun K hK => ?_)
            go_simp
            refine (rset_any wu loL loL (.slice (some ⟨gL, 0, none⟩) n vc) KL pr (.slice aa k0 cap) RW (HKL.out.below (HT.out.trans (HX.out.mono HT.out.size))) (by have := HKN.out; have := HN.out; have := HD.out.n0; omega) (by have := HKN.out; have := HN.out; have := HD.out.n1; omega) (Nat.le_trans HLOL.out (HT.out.trans (HX.out.mono HT.out.size)).size) (HRAW.out.below (HT.out.trans (HX.out.mono HT.out.size))) HRL.out HM0.out).mono ?_
            rintro e wv ⟨v', K', rfl, k1, k2, bz⟩
            rw [HKM.out] at k2
            have HVR := Lib.hid (show Rl wv loL v' (setRG G pr RW) from ⟨K', k1.lower (Nat.le_refl _) (Nat.le_trans HLOL.out (HT.out.trans (HX.out.mono HT.out.size)).size), k2⟩)
            have hfr : ∀ W : World, (Instr.field 29 (.agg #[v']) 0).run Try.prog W = .ok v' W := fun _ => by kernel_rfl
            replace HVS := Lib.hid (HVS.out.below bz)
            clear k1 k2
            replace HX := Lib.hid (HX.out.trans (bz.mono HX.out.size))
            clear bz
            go_wp2_with fail
            refine hK.out _ _ ?_ (fun hHeld => ?_)
            · exact HSK.out _ HX.out
            clear hK K
            try go_frame
            refine tk 31 rfl (fun w hSw => by (try dsimp only at hSw); go_simp; try with_reducible rfl) ?_
            go_frame
            refine do_at (i := 32) rfl (by kernel_rfl) (by kernel_rfl) (fun K hK => ?_)
            go_simp
            refine (rsames_yes wv _ _ vs v' _ HVS.out HVR.out (by have := HD2.out.n1; omega) (fun R hR => by have := HD2.out.row R hR; have := HD2.out.m1; omega)).mono ?_
            rintro e wz ⟨rfl, bz⟩
            replace HX := Lib.hid (HX.out.trans (bz.mono HX.out.size))
            clear bz
            go_wp2_with fail
            refine hK.out _ _ ?_ (fun hHeld => ?_)
            · exact HSK.out _ HX.out
            clear hK K
            try go_frame
            refine tk 33 rfl (fun w hSw => by (try dsimp only at hSw); go_simp; try with_reducible rfl) ?_
            go_frame
            refine tk 34 rfl (fun w hSw => by (try dsimp only at hSw); go_simp; try with_reducible rfl) ?_
            go_frame
            refine wpAnyH_done (by kernel_rfl) ?_ _
            have HTE := Lib.hid (HTW.out.trans ((HT.out.trans (HX.out.mono HT.out.size)).mono HTW.out.size))
            clear hHeld HSK HX HVS HVR HT HG2 HD2 HL11 hfr
            go_wp2
            go_roundg (3 - (k + 1))
            case rel => exact ⟨k + 1, by go_num, HLT.out, Nat.le_refl _, HTE⟩
            case measure => have := HLT.out; omega
        · as_aux_lemma =>
            have HIR := Lib.hid hIR
            have HIP := Lib.hid (show (isInB pr n && isInB pc m) = false by rw [hIR]; rfl)
            have HC1E := Lib.hid (show c1 = Cel.z by rw [HC1.out]; unfold atM; rw [← HN.out, HIP.out, if_neg (by decide)])
            have hge1 : decide (0 ≤ pr) = false := decide_eq_false hge
            clear hIR
            have y7 := (HL7.out.below HT.out).at 0 rfl
            have y0 := HL11.out.at 0 rfl
            have y1 := HL11.out.at 1 rfl
            go_wp2_with fail
            refine (Is_any w12 gL n vc m xc xa pr pc (HHD.out _ HT.out).1 (HHD.out _ HT.out).2).mono ?_
            rintro e w13 ⟨rfl, bz⟩
            rw [HIP.out]
            replace HL11 := Lib.hid (HL11.out.below bz)
            replace HL12 := Lib.hid (HL12.out.below bz)
            replace HV14 := Lib.hid ((bz.block b14 (Array.getElem?_eq_some_iff.1 HV14.out).1).trans HV14.out)
            replace HT := Lib.hid (HT.out.trans (bz.mono HT.out.size))
            clear bz y7 y0 y1
            have HL14 := Lib.hid (show Lie w13 b14 [.int .i32 c1.ru, .int .i32 c1.m0, .int .i32 c1.m1, .int .u8 c1.k, .int .u8 c1.a.fg.k, .int .u8 c1.a.fg.r, .int .u8 c1.a.fg.g, .int .u8 c1.a.fg.b, .int .u8 c1.a.bg.k, .int .u8 c1.a.bg.r, .int .u8 c1.a.bg.g, .int .u8 c1.a.bg.b, .int .u16 (c1.a.fl : Nat), .int .u8 c1.l] by rw [HC1E.out]; exact Lie.of HV14.out)
            clear HV14
            have HSK := Lib.hid (show ∀ W, Below w13.heap.size w13 W → (fun wx => wx.cell? ⟨b7, 0, none⟩ = some (.slice (some ⟨gL, 0, none⟩) n vc) ∧ wx.cell? ⟨b11, 0, none⟩ = some (.int .i64 pr) ∧ wx.cell? ⟨b11, 1, none⟩ = some (.int .i64 pc) ∧ wx.cell? ⟨b12, 0, none⟩ = some (.int .i32 c1.ru) ∧ wx.cell? ⟨b12, 1, none⟩ = some (.int .i32 c1.m0) ∧ wx.cell? ⟨b12, 2, none⟩ = some (.int .i32 c1.m1) ∧ wx.cell? ⟨b12, 3, none⟩ = some (.int .u8 c1.k) ∧ wx.cell? ⟨b12, 4, none⟩ = some (.int .u8 c1.a.fg.k) ∧ wx.cell? ⟨b12, 5, none⟩ = some (.int .u8 c1.a.fg.r) ∧ wx.cell? ⟨b12, 6, none⟩ = some (.int .u8 c1.a.fg.g) ∧ wx.cell? ⟨b12, 7, none⟩ = some (.int .u8 c1.a.fg.b) ∧ wx.cell? ⟨b12, 8, none⟩ = some (.int .u8 c1.a.bg.k) ∧ wx.cell? ⟨b12, 9, none⟩ = some (.int .u8 c1.a.bg.r) ∧ wx.cell? ⟨b12, 10, none⟩ = some (.int .u8 c1.a.bg.g) ∧ wx.cell? ⟨b12, 11, none⟩ = some (.int .u8 c1.a.bg.b) ∧ wx.cell? ⟨b12, 12, none⟩ = some (.int .u16 (c1.a.fl : Nat)) ∧ wx.cell? ⟨b12, 13, none⟩ = some (.int .u8 c1.l) ∧ wx.cell? ⟨b14, 0, none⟩ = some (.int .i32 c1.ru) ∧ wx.cell? ⟨b14, 1, none⟩ = some (.int .i32 c1.m0) ∧ wx.cell? ⟨b14, 2, none⟩ = some (.int .i32 c1.m1) ∧ wx.cell? ⟨b14, 3, none⟩ = some (.int .u8 c1.k) ∧ wx.cell? ⟨b14, 4, none⟩ = some (.int .u8 c1.a.fg.k) ∧ wx.cell? ⟨b14, 5, none⟩ = some (.int .u8 c1.a.fg.r) ∧ wx.cell? ⟨b14, 6, none⟩ = some (.int .u8 c1.a.fg.g) ∧ wx.cell? ⟨b14, 7, none⟩ = some (.int .u8 c1.a.fg.b) ∧ wx.cell? ⟨b14, 8, none⟩ = some (.int .u8 c1.a.bg.k) ∧ wx.cell? ⟨b14, 9, none⟩ = some (.int .u8 c1.a.bg.r) ∧ wx.cell? ⟨b14, 10, none⟩ = some (.int .u8 c1.a.bg.g) ∧ wx.cell? ⟨b14, 11, none⟩ = some (.int .u8 c1.a.bg.b) ∧ wx.cell? ⟨b14, 12, none⟩ = some (.int .u16 (c1.a.fl : Nat)) ∧ wx.cell? ⟨b14, 13, none⟩ = some (.int .u8 c1.l)) W from fun W kb => ⟨(HL7.out.below (HT.out.trans (kb.mono HT.out.size))).at 0 rfl, (HL11.out.below kb).at 0 rfl, (HL11.out.below kb).at 1 rfl, (HL12.out.below kb).at 0 rfl, (HL12.out.below kb).at 1 rfl, (HL12.out.below kb).at 2 rfl, (HL12.out.below kb).at 3 rfl, (HL12.out.below kb).at 4 rfl, (HL12.out.below kb).at 5 rfl, (HL12.out.below kb).at 6 rfl, (HL12.out.below kb).at 7 rfl, (HL12.out.below kb).at 8 rfl, (HL12.out.below kb).at 9 rfl, (HL12.out.below kb).at 10 rfl, (HL12.out.below kb).at 11 rfl, (HL12.out.below kb).at 12 rfl, (HL12.out.below kb).at 13 rfl, (HL14.out.below kb).at 0 rfl, (HL14.out.below kb).at 1 rfl, (HL14.out.below kb).at 2 rfl, (HL14.out.below kb).at 3 rfl, (HL14.out.below kb).at 4 rfl, (HL14.out.below kb).at 5 rfl, (HL14.out.below kb).at 6 rfl, (HL14.out.below kb).at 7 rfl, (HL14.out.below kb).at 8 rfl, (HL14.out.below kb).at 9 rfl, (HL14.out.below kb).at 10 rfl, (HL14.out.below kb).at 11 rfl, (HL14.out.below kb).at 12 rfl, (HL14.out.below kb).at 13 rfl⟩)
            have hq : ∀ w : World, (Op.equalIn 10000 42 (celV c1) (celV c1)).run Try.prog w = .ok true w := fun w => by rw [eqCel, decide_eq_true rfl]
            go_upto_region 14 with (fail)
            refine wp_region_held_drew (S := fun wx => wx.cell? ⟨b7, 0, none⟩ = some (.slice (some ⟨gL, 0, none⟩) n vc) ∧ wx.cell? ⟨b11, 0, none⟩ = some (.int .i64 pr) ∧ wx.cell? ⟨b11, 1, none⟩ = some (.int .i64 pc) ∧ wx.cell? ⟨b12, 0, none⟩ = some (.int .i32 c1.ru) ∧ wx.cell? ⟨b12, 1, none⟩ = some (.int .i32 c1.m0) ∧ wx.cell? ⟨b12, 2, none⟩ = some (.int .i32 c1.m1) ∧ wx.cell? ⟨b12, 3, none⟩ = some (.int .u8 c1.k) ∧ wx.cell? ⟨b12, 4, none⟩ = some (.int .u8 c1.a.fg.k) ∧ wx.cell? ⟨b12, 5, none⟩ = some (.int .u8 c1.a.fg.r) ∧ wx.cell? ⟨b12, 6, none⟩ = some (.int .u8 c1.a.fg.g) ∧ wx.cell? ⟨b12, 7, none⟩ = some (.int .u8 c1.a.fg.b) ∧ wx.cell? ⟨b12, 8, none⟩ = some (.int .u8 c1.a.bg.k) ∧ wx.cell? ⟨b12, 9, none⟩ = some (.int .u8 c1.a.bg.r) ∧ wx.cell? ⟨b12, 10, none⟩ = some (.int .u8 c1.a.bg.g) ∧ wx.cell? ⟨b12, 11, none⟩ = some (.int .u8 c1.a.bg.b) ∧ wx.cell? ⟨b12, 12, none⟩ = some (.int .u16 (c1.a.fl : Nat)) ∧ wx.cell? ⟨b12, 13, none⟩ = some (.int .u8 c1.l) ∧ wx.cell? ⟨b14, 0, none⟩ = some (.int .i32 c1.ru) ∧ wx.cell? ⟨b14, 1, none⟩ = some (.int .i32 c1.m0) ∧ wx.cell? ⟨b14, 2, none⟩ = some (.int .i32 c1.m1) ∧ wx.cell? ⟨b14, 3, none⟩ = some (.int .u8 c1.k) ∧ wx.cell? ⟨b14, 4, none⟩ = some (.int .u8 c1.a.fg.k) ∧ wx.cell? ⟨b14, 5, none⟩ = some (.int .u8 c1.a.fg.r) ∧ wx.cell? ⟨b14, 6, none⟩ = some (.int .u8 c1.a.fg.g) ∧ wx.cell? ⟨b14, 7, none⟩ = some (.int .u8 c1.a.fg.b) ∧ wx.cell? ⟨b14, 8, none⟩ = some (.int .u8 c1.a.bg.k) ∧ wx.cell? ⟨b14, 9, none⟩ = some (.int .u8 c1.a.bg.r) ∧ wx.cell? ⟨b14, 10, none⟩ = some (.int .u8 c1.a.bg.g) ∧ wx.cell? ⟨b14, 11, none⟩ = some (.int .u8 c1.a.bg.b) ∧ wx.cell? ⟨b14, 12, none⟩ = some (.int .u16 (c1.a.fl : Nat)) ∧ wx.cell? ⟨b14, 13, none⟩ = some (.int .u8 c1.l)) (by kernel_rfl) ?_ (fun hHeld => ?_)
            · exact HSK.out _ ((Below.refl _ _).drew)
            obtain ⟨wd, hwd⟩ : ∃ X, X = w13.drew := ⟨_, rfl⟩
            have HX := Lib.hid (show Below w13.heap.size w13 wd by rw [hwd]; exact (Below.refl _ _).drew)
            replace hHeld := HSK.out _ HX.out
            rw [← hwd]
            clear hwd
            refine tk 0 rfl (fun w hSw => by (try dsimp only at hSw); go_simp; try with_reducible rfl) ?_
            go_frame
            refine tk 1 rfl (fun w hSw => by (try dsimp only at hSw); go_simp; try with_reducible rfl) ?_
            go_frame
            refine tk 2 rfl (fun w hSw => by (try dsimp only at hSw); go_simp; try with_reducible rfl) ?_
            go_frame
            refine do_at (i := 3) rfl (by kernel_rfl) (by kernel_rfl) (fun K hK => ?_)
            go_simp
            refine (Is_any wd gL n vc m xc xa pr pc (HHD.out _ (HT.out.trans (HX.out.mono HT.out.size))).1 (HHD.out _ (HT.out.trans (HX.out.mono HT.out.size))).2).mono ?_
            rintro e wu ⟨rfl, bz⟩
            rw [HIP.out]
            replace HX := Lib.hid (HX.out.trans (bz.mono HX.out.size))
            clear bz
            go_wp2_with fail
            refine hK.out _ _ ?_ (fun hHeld => ?_)
            · exact HSK.out _ HX.out
            clear hK K
            try go_frame
            refine tk 4 rfl (fun w hSw => by (try dsimp only at hSw); go_simp; try with_reducible rfl) ?_
            go_frame
            refine tk 5 rfl (fun w hSw => by (try dsimp only at hSw); go_simp; try with_reducible rfl) ?_
            go_frame
            refine tk 6 rfl (fun w hSw => by (try dsimp only at hSw); go_simp; try with_reducible rfl) ?_
            go_frame
            refine tk 7 rfl (fun w hSw => by (try dsimp only at hSw); go_simp; try with_reducible rfl) ?_
            go_frame
            refine tk 8 rfl (fun w hSw => by (try dsimp only at hSw); go_simp; try with_reducible rfl) ?_
            go_frame
            refine tk 9 rfl (fun w hSw => by (try dsimp only at hSw); go_simp; try with_reducible rfl) ?_
            go_frame
            refine tk 10 rfl (fun w hSw => by (try dsimp only at hSw); go_simp; try with_reducible rfl) ?_
            go_frame
            refine tk 11 rfl (fun w hSw => by (try dsimp only at hSw); go_simp; try with_reducible rfl) ?_
            go_frame
            refine tk 12 rfl (fun w hSw => by (try dsimp only at hSw); go_simp; try with_reducible rfl) ?_
            go_frame
            refine tk 13 rfl (fun w hSw => by (try dsimp only at hSw); go_simp; try with_reducible rfl) ?_
            go_frame
            refine tk 17 rfl (fun w hSw => by (try dsimp only at hSw); go_simp; try with_reducible rfl) ?_
            go_frame
            refine tk 18 rfl (fun w hSw => by (try dsimp only at hSw); go_simp; try with_reducible rfl) ?_
            go_frame
            refine tk 19 rfl (fun w hSw => by (try dsimp only at hSw); go_simp; try with_reducible rfl) ?_
            go_frame
            refine do_at (i := 14) rfl (by kernel_rfl) (by kernel_rfl) (fun K hK => ?_)
            go_simp
            refine (grow_len wu lo p rb c m G pr (HG.out.below (HT.out.trans (HX.out.mono HT.out.size))) HD.out).mono ?_
            rintro e wv ⟨ga, gl, gc', rfl, hl1, hl0, bz⟩
            obtain rfl := hl0 (by rw [← HN.out]; exact HIR.out)
            clear hl1
            replace HX := Lib.hid (HX.out.trans (bz.mono HX.out.size))
            clear bz
            go_wp2_with fail
            refine hK.out _ _ ?_ (fun hHeld => ?_)
            · exact HSK.out _ HX.out
            clear hK K
            try go_frame
            refine tk 15 rfl (fun w hSw => by (try dsimp only at hSw); go_simp; try with_reducible rfl) ?_
            go_frame
            refine tk 16 rfl (fun w hSw => by (try dsimp only at hSw); go_simp; try with_reducible rfl) ?_
            go_frame
            refine tk 20 rfl (fun w hSw => by (try dsimp only at hSw); go_simp; try with_reducible rfl) ?_
            go_frame
            refine sk 21 rfl ?_
            go_frame
            refine sk 22 rfl ?_
            go_frame
            refine sk 23 rfl ?_
            go_frame
            refine sk 24 rfl ?_
            go_frame
            refine sk 25 rfl ?_
            go_frame
            refine sk 26 rfl ?_
            go_frame
            refine tk 27 rfl (fun w hSw => by (try dsimp only at hSw); go_simp; try with_reducible rfl) ?_
            go_frame
            refine tk 28 rfl (fun w hSw => by (try dsimp only at hSw); go_simp; try with_reducible rfl) ?_
            go_frame
            refine tk 29 rfl (fun w hSw => by (try dsimp only at hSw); go_simp; try with_reducible rfl) ?_
            go_frame
            refine wpAnyH_done (by kernel_rfl) ?_ _
            replace HT := Lib.hid (HT.out.trans (HX.out.mono HT.out.size))
            replace HL11 := Lib.hid (HL11.out.below HX.out)
            clear hHeld HSK HX HL12 HL14 hq
            have HL11S := Lib.hid (show b11 < wv.heap.size from HL11.out.1)
            go_wp2_with fail
            refine (gcopy_gg wv lo p rb c m G (HG.out.below HT.out) HD.out).mono ?_
            rintro e w16 ⟨p2, rb2, c2, rfl, g2, bz⟩
            obtain ⟨lo2, hlo2⟩ : ∃ l, l = wv.heap.size := ⟨_, rfl⟩
            rw [← hlo2] at g2
            have HG2' := Lib.hid g2
            have HTP := HT
            replace HL11 := Lib.hid (HL11.out.below bz)
            replace HT := Lib.hid (HT.out.trans (bz.mono HT.out.size))
            have HLO2 := Lib.hid (show wr.heap.size ≤ lo2 by rw [hlo2]; exact HTP.out.size)
            have HL2S := Lib.hid (show lo2 ≤ w16.heap.size by rw [hlo2]; exact bz.size)
            have HB11 := Lib.hid (show b11 ≠ rb2 by have h1 := g2.lt.2.2.1; have h2 := HL11S.out; omega)
            clear g2 bz hlo2 HTP HL11S
            have y0 := HL11.out.at 0 rfl
            go_wp2_with fail
            refine (gset_gg w16 lo2 p2 rb2 c2 m k0 cap aa G pr RW HG2'.out HD.out HL2S.out (HRAW.out.below HT.out) HRL.out).mono ?_
            rintro e w18 ⟨rfl, g2, bt⟩
            rw [← HN.out, HIR.out]
            have HG2 := Lib.hid g2
            have HD2 := Lib.hid (setRG_siz HD.out pr RW)
            replace HL11 := Lib.hid (HL11.out.buts bt HB11.out)
            replace HT := Lib.hid (show Below wr.heap.size wr w18 from HT.out.trans (bt.below (C := wr.heap.size) (fun i hi => by have h1 := HG2'.out.lt.2.2.1; have h2 := HLO2.out; omega) HT.out.size))
            clear g2 bt HG2' HLO2 HL2S HB11 y0
            have HSK := Lib.hid (show ∀ W, Below w18.heap.size w18 W → (fun wx => wx.cell? ⟨b7, 0, none⟩ = some (.slice (some ⟨gL, 0, none⟩) n vc) ∧ wx.cell? ⟨b11, 0, none⟩ = some (.int .i64 pr) ∧ wx.cell? ⟨gL, 0, none⟩ = some (.slice xa m xc)) W from fun W kb => ⟨(HL7.out.below (HT.out.trans (kb.mono HT.out.size))).at 0 rfl, (HL11.out.below kb).at 0 rfl, (HHD.out _ (HT.out.trans (kb.mono HT.out.size))).1⟩)
            go_upto_region 18 with (fail)
            refine wp_region_held_drew (S := fun wx => wx.cell? ⟨b7, 0, none⟩ = some (.slice (some ⟨gL, 0, none⟩) n vc) ∧ wx.cell? ⟨b11, 0, none⟩ = some (.int .i64 pr) ∧ wx.cell? ⟨gL, 0, none⟩ = some (.slice xa m xc)) (by kernel_rfl) ?_ (fun hHeld => ?_)
            · exact HSK.out _ ((Below.refl _ _).drew)
            obtain ⟨wd, hwd⟩ : ∃ X, X = w18.drew := ⟨_, rfl⟩
            have HX := Lib.hid (show Below w18.heap.size w18 wd by rw [hwd]; exact (Below.refl _ _).drew)
            replace hHeld := HSK.out _ HX.out
            rw [← hwd]
            clear hwd
            refine tk 0 rfl (fun w hSw => by (try dsimp only at hSw); go_simp; try with_reducible rfl) ?_
            go_frame
            refine tk 1 rfl (fun w hSw => by (try dsimp only at hSw); go_simp; try with_reducible rfl) ?_
            go_frame
            refine tk 2 rfl (fun w hSw => by (try dsimp only at hSw); go_simp; try with_reducible rfl) ?_
            go_frame
            refine tk 3 rfl (fun w hSw => by (try dsimp only at hSw); go_simp; try with_reducible rfl) ?_
            go_frame
            refine tk 4 rfl (fun w hSw => by (try dsimp only at hSw); go_simp; try with_reducible rfl) ?_
            go_frame
            refine sk 5 rfl ?_
            go_frame
            refine sk 6 rfl ?_
            go_frame
            refine sk 7 rfl ?_
            go_frame
            refine sk 8 rfl ?_
            go_frame
            refine sk 9 rfl ?_
            go_frame
            refine sk 10 rfl ?_
            go_frame
            refine tk 11 rfl (fun w hSw => by (try dsimp only at hSw); go_simp; try with_reducible rfl) ?_
            go_frame
            refine tk 12 rfl (fun w hSw => by (try dsimp only at hSw); go_simp; try with_reducible rfl) ?_
            go_frame
            refine sk 13 rfl ?_
            go_frame
            refine sk 14 rfl ?_
            go_frame
            refine sk 15 rfl ?_
            go_frame
            refine sk 16 rfl ?_
            go_frame
            refine sk 17 rfl ?_
            go_frame
            refine sk 18 rfl ?_
            go_frame
            refine sk 19 rfl ?_
            go_frame
            refine sk 20 rfl ?_
            go_frame
            refine tk 21 rfl (fun w hSw => by (try dsimp only at hSw); go_simp; try with_reducible rfl) ?_
            go_frame
            refine tk 22 rfl (fun w hSw => by (try dsimp only at hSw); go_simp; try with_reducible rfl) ?_
            go_frame
            refine tk 23 rfl (fun w hSw => by (try dsimp only at hSw); go_simp; try with_reducible rfl) ?_
            go_frame
            refine tk 24 rfl (fun w hSw => by (try dsimp only at hSw); go_simp; try with_reducible rfl) ?_
            go_frame
            refine tk 26 rfl (fun w hSw => by (try dsimp only at hSw); go_simp; try with_reducible rfl) ?_
            go_frame
            refine tk 27 rfl (fun w hSw => by (try dsimp only at hSw); go_simp; try with_reducible rfl) ?_
            go_frame
            refine tk 28 rfl (fun w hSw => by (try dsimp only at hSw); go_simp; try with_reducible rfl) ?_
            go_frame
            refine tk 29 rfl (fun w hSw => by (try dsimp only at hSw); go_simp; try with_reducible rfl) ?_
            go_frame
            refine do_at (i := 25) rfl (by kernel_rfl) (by kernel_rfl) (fun K hK => ?_)
            go_simp
            refine (rows_raw wd lo2 p2 rb2 c2 m _ (HG2.out.below HX.out) HD2.out).mono ?_
            rintro e wu ⟨vs, Ks, rfl, ks, hks, _, bz⟩
            have HVS := Lib.hid (show Rl wu _ vs (setRG G pr RW) from ⟨Ks, ks, hks⟩)
            clear ks hks
            replace HX := Lib.hid (HX.out.trans (bz.mono HX.out.size))
            clear bz
            go_wp2_with fail
            refine hK.out _ _ ?_ (fun hHeld => ?_)
            · exact HSK.out _ HX.out
            clear hK K
            try go_frame
            refine do_at (i := 30) rfl (by kernel_rfl) (by kernel_rfl) (fun K hK => ?_)
            go_simp
            refine (rset_any wu loL loL (.slice (some ⟨gL, 0, none⟩) n vc) KL pr (.slice aa k0 cap) RW (HKL.out.below (HT.out.trans (HX.out.mono HT.out.size))) (by have := HKN.out; have := HN.out; have := HD.out.n0; omega) (by have := HKN.out; have := HN.out; have := HD.out.n1; omega) (Nat.le_trans HLOL.out (HT.out.trans (HX.out.mono HT.out.size)).size) (HRAW.out.below (HT.out.trans (HX.out.mono HT.out.size))) HRL.out HM0.out).mono ?_
            rintro e wv ⟨v', K', rfl, k1, k2, bz⟩
            rw [HKM.out] at k2
            have HVR := Lib.hid (show Rl wv loL v' (setRG G pr RW) from ⟨K', k1.lower (Nat.le_refl _) (Nat.le_trans HLOL.out (HT.out.trans (HX.out.mono HT.out.size)).size), k2⟩)
            have hfr : ∀ W : World, (Instr.field 29 (.agg #[v']) 0).run Try.prog W = .ok v' W := fun _ => by kernel_rfl
            replace HVS := Lib.hid (HVS.out.below bz)
            clear k1 k2
            replace HX := Lib.hid (HX.out.trans (bz.mono HX.out.size))
            clear bz
            go_wp2_with fail
            refine hK.out _ _ ?_ (fun hHeld => ?_)
            · exact HSK.out _ HX.out
            clear hK K
            try go_frame
            refine tk 31 rfl (fun w hSw => by (try dsimp only at hSw); go_simp; try with_reducible rfl) ?_
            go_frame
            refine do_at (i := 32) rfl (by kernel_rfl) (by kernel_rfl) (fun K hK => ?_)
            go_simp
            refine (rsames_yes wv _ _ vs v' _ HVS.out HVR.out (by have := HD2.out.n1; omega) (fun R hR => by have := HD2.out.row R hR; have := HD2.out.m1; omega)).mono ?_
            rintro e wz ⟨rfl, bz⟩
            replace HX := Lib.hid (HX.out.trans (bz.mono HX.out.size))
            clear bz
            go_wp2_with fail
            refine hK.out _ _ ?_ (fun hHeld => ?_)
            · exact HSK.out _ HX.out
            clear hK K
            try go_frame
            refine tk 33 rfl (fun w hSw => by (try dsimp only at hSw); go_simp; try with_reducible rfl) ?_
            go_frame
            refine tk 34 rfl (fun w hSw => by (try dsimp only at hSw); go_simp; try with_reducible rfl) ?_
            go_frame
            refine wpAnyH_done (by kernel_rfl) ?_ _
            have HTE := Lib.hid (HTW.out.trans ((HT.out.trans (HX.out.mono HT.out.size)).mono HTW.out.size))
            clear hHeld HSK HX HVS HVR HT HG2 HD2 HL11 hfr
            go_wp2
            go_roundg (3 - (k + 1))
            case rel => exact ⟨k + 1, by go_num, HLT.out, Nat.le_refl _, HTE⟩
            case measure => have := HLT.out; omega
    · obtain rfl : k = 3 := by omega
      have HBE := Lib.hid (HB6.out.trans (HTW.out.mono HB6.out.size))
      clear HTW
      go_wp2_with fail
      refine (works_any wr).mono ?_
      rintro e wz ⟨rfl, bz⟩
      replace HBE := Lib.hid (HBE.out.trans (bz.mono HBE.out.size))
      clear bz
      go_wp2
      go_ret
      exact ⟨rfl, HBE.out⟩
set_option maxRecDepth 100000 in
theorem gridAsks_walk {H : Type} (enc : TypeId × Value → H) (base : Nat) (W : World)
    (v0 : Value) (d0 : DataW H) (p0 : List MemPlace) (ok0 : Value.okWide Try.prog W .any base 24 v0) (k0 : DataW.Trod enc Try.prog W 0 (fun _ => true) true 24 v0 d0 p0)
    (v1 : Value) (d1 : DataW H) (p1 : List MemPlace) (ok1 : Value.okWide Try.prog W .any base 25 v1) (k1 : DataW.Trod enc Try.prog W 0 (fun _ => true) true 25 v1 d1 p1)
    (v2 : Value) (d2 : DataW H) (p2 : List MemPlace) (ok2 : Value.okWide Try.prog W .any base 26 v2) (k2 : DataW.Trod enc Try.prog W 0 (fun _ => true) true 26 v2 d2 p2) :
    Calls Try.prog 3 #[v0, v1, v2] W fun e w' => e = .returned (.bool true) ∧ Below W.heap.size W w' := by
  obtain ⟨cols, u, LL, rfl, hL⟩ := open_gdraft enc base W ok0 k0
  obtain ⟨x0, x1, x2, rfl⟩ := open_i3 enc base W ok1 k1
  obtain ⟨a, len, cap, T, rfl, h1, h2, h3, h4⟩ := open_cells enc base W ok2 k2
  exact gasks_core W cols u LL x0 x1 x2 a len cap T hL h1 h2 h3 h4
end Go.Proofs.Ytdeahnphcfcfpaa.Lab
