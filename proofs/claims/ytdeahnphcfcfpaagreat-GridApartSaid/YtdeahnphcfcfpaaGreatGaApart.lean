/- GridApart: the walk. -/
import Derived.Test.YtdeahnphcfcfpaaGreatGaMath
import Derived.Test.YtdeahnphcfcfpaaGreatGaSeen
import Derived.Test.YtdeahnphcfcfpaaGreatGgWorks
namespace Go.Proofs.YtdeahnphcfcfpaaGreat.Lab
open Go Go.RowKit

theorem gridM_len (cols : Nat) (LL : List (List Dc)) (O : List Dc) : (gridM cols LL O).length ≤ 8 := by
  have hl : (rowsD (1 + cols % 20) LL O).length = min 8 LL.length := by unfold rowsD; rw [List.length_map, List.length_take]
  have hn := gK_len (c := 1 + cols % 20) (RS := rowsD (1 + cols % 20) LL O) (n := max 1 (min 8 LL.length)) (k := min 8 LL.length) (by omega) (by omega)
  rw [gridM, hn]
  omega
theorem S11.below {w w' : World} {b o : Nat} {a : St} {n : Nat} (h : S11 w b o a) (k : Below n w w') (hb : b < n) : S11 w' b o a := by
  obtain ⟨q0, q1, q2, q3, q4, q5, q6, q7, q8, q9, q10⟩ := h
  have e : ∀ o, w'.cell? ⟨b, o, none⟩ = w.cell? ⟨b, o, none⟩ := fun o => World.cell?_of_block (a := ⟨b, o, none⟩) (k.block b hb)
  exact ⟨(e _).trans q0, (e _).trans q1, (e _).trans q2, (e _).trans q3, (e _).trans q4, (e _).trans q5, (e _).trans q6, (e _).trans q7, (e _).trans q8, (e _).trans q9, (e _).trans q10⟩
set_option maxHeartbeats 1500000 in
set_option maxRecDepth 100000 in
theorem gapart_core (W : World) (cols : Nat) (lv ov : Value) (LL : List (List Dc)) (O : List Dc) (aa : Option Addr) (len cap : Nat) (T : Nat → St) (hL : LnsIn W lv LL) (hO : DsIn W ov O) (hA : StsIn W aa len T) :
    Calls Tryz.prog 3 #[.agg #[.int .u8 (cols : Nat), lv], ov, .slice aa len cap] W fun e w' => e = .returned (.bool true) ∧ Below W.heap.size W w' := by
  have HLL := Lib.hid hL
  have HOO := Lib.hid hO
  have HAA := Lib.hid hA
  obtain ⟨la, lc, hlv, _⟩ := hL
  obtain ⟨ll, hll⟩ : ∃ ll, ll = LL.length := ⟨_, rfl⟩
  rw [← hll] at hlv
  subst hlv
  obtain ⟨w0, hw0⟩ : ∃ X, X = W.alloc (.cells #[.int .u8 (cols : Nat), .slice la ll lc] 24) := ⟨_, rfl⟩
  obtain ⟨b2, hb2⟩ : ∃ b, b = W.heap.size := ⟨_, rfl⟩
  have B0 : Below W.heap.size W w0 := by rw [hw0]; exact (Below.refl _ _).alloc (Nat.le_refl _) _
  have h2 : Lie w0 b2 [.int .u8 (cols : Nat), .slice la ll lc] := by rw [hw0]; exact Lie.new W _ _ b2 hb2
  have HL2 := Lib.hid h2
  have HB0 := Lib.hid B0
  clear B0 h2 hA hO hll
  go_enter Tryz.func3, Tryz.ntmps3
  go_upto_region 1 with (fail)
  rw [← hw0, ← hb2]
  clear hw0 hb2
  go_wp2_with fail
  refine (works_any w0).mono ?_
  rintro e w1 ⟨rfl, b1⟩
  have HX := Lib.hid (HB0.out.trans (b1.mono HB0.out.size))
  have HLI := Lib.hid (HL2.out.below b1)
  have HSK := Lib.hid (show ∀ W', Below w1.heap.size w1 W' → (fun wx => wx.cell? ⟨b2, 0, none⟩ = some (.int .u8 (cols : Nat)) ∧ wx.cell? ⟨b2, 1, none⟩ = some (.slice la ll lc)) W' from fun W' kb => ⟨(HLI.out.below kb).at 0 rfl, (HLI.out.below kb).at 1 rfl⟩)
  clear b1 HL2 HLI
  obtain ⟨m0, hm0⟩ : ∃ m, m = 1 + cols % 20 := ⟨_, rfl⟩
  have HM5 := Lib.hid (show m0 ≤ 512 by omega)
  have HGDA := Lib.hid (gridM_good cols LL [])
  have HLNA := Lib.hid (gridM_len cols LL [])
  have HGDB := Lib.hid (gridM_good cols LL O)
  have HLNB := Lib.hid (gridM_len cols LL O)
  rw [← hm0] at HGDA HGDB
  clear hm0
  go_upto_region 3 with (fail)
  refine wp_region_held_drew (S := fun wx => wx.cell? ⟨b2, 0, none⟩ = some (.int .u8 (cols : Nat)) ∧ wx.cell? ⟨b2, 1, none⟩ = some (.slice la ll lc)) (by kernel_rfl) ?_ (fun hHeld => ?_)
  · exact HSK.out _ ((Below.refl _ _).drew)
  obtain ⟨wd, hwd⟩ : ∃ X, X = w1.drew := ⟨_, rfl⟩
  replace HX := Lib.hid (show Below W.heap.size W wd by rw [hwd]; exact HX.out.drew)
  have HY := Lib.hid (show Below w1.heap.size w1 wd by rw [hwd]; exact (Below.refl _ _).drew)
  replace hHeld := HSK.out _ HY.out
  rw [← hwd]
  clear hwd
  refine tk 0 rfl (fun w hSw => by (try dsimp only at hSw); go_simp; try with_reducible rfl) ?_
  go_frame
  refine tk 3 rfl (fun w hSw => by (try dsimp only at hSw); go_simp; try with_reducible rfl) ?_
  go_frame
  refine tk 4 rfl (fun w hSw => by (try dsimp only at hSw); go_simp; try with_reducible rfl) ?_
  go_frame
  refine do_at (i := 1) rfl (by kernel_rfl) (by kernel_rfl) (fun K hK => ?_)
  go_simp
  refine (rgrid_any wd cols (.slice la ll lc) (.slice none 0 0) LL [] (HLL.out.below HX.out) (DsIn.nil _ _ _)).mono ?_
  rintro e wgA ⟨vA, rfl, hrl, bb⟩
  have HRLA := Lib.hid hrl
  replace HX := Lib.hid (HX.out.trans (bb.mono HX.out.size))
  replace HY := Lib.hid (HY.out.trans (bb.mono HY.out.size))
  clear hrl bb
  obtain ⟨vaA, vcA, rfl⟩ := HRLA.out.shape
  go_wp2_with fail
  refine hK.out _ _ ?_ (fun hHeld => ?_)
  · exact HSK.out _ HY.out
  clear hK K
  try go_frame
  refine do_at (i := 2) rfl (by kernel_rfl) (by kernel_rfl) (fun K hK => ?_)
  go_simp
  refine (of_any wgA _ m0 _ (gridM cols LL []) HRLA.out HGDA.out ⟨by have := HLNA.out; omega, HM5.out⟩).mono ?_
  rintro e woA ⟨pA, rbA, cA, rfl, gg, bb⟩
  obtain ⟨loA, hloA⟩ : ∃ lo, lo = wgA.heap.size := ⟨_, rfl⟩
  rw [← hloA] at gg
  have HGA := Lib.hid gg
  have HLOA := Lib.hid (show W.heap.size ≤ loA by rw [hloA]; exact HX.out.size)
  replace HX := Lib.hid (HX.out.trans (bb.mono HX.out.size))
  replace HY := Lib.hid (HY.out.trans (bb.mono HY.out.size))
  clear gg bb hloA
  go_wp2_with fail
  refine hK.out _ _ ?_ (fun hHeld => ?_)
  · exact HSK.out _ HY.out
  clear hK K
  try go_frame
  refine do_at (i := 5) rfl (by kernel_rfl) (by kernel_rfl) (fun K hK => ?_)
  go_simp
  refine (rgrid_any woA cols (.slice la ll lc) (ov) LL O (HLL.out.below HX.out) (HOO.out.below HX.out)).mono ?_
  rintro e wgB ⟨vB, rfl, hrl, bb⟩
  have HRLB := Lib.hid hrl
  replace HGA := Lib.hid (HGA.out.below bb)
  replace HX := Lib.hid (HX.out.trans (bb.mono HX.out.size))
  replace HY := Lib.hid (HY.out.trans (bb.mono HY.out.size))
  clear hrl bb
  obtain ⟨vaB, vcB, rfl⟩ := HRLB.out.shape
  go_wp2_with fail
  refine hK.out _ _ ?_ (fun hHeld => ?_)
  · exact HSK.out _ HY.out
  clear hK K
  try go_frame
  refine do_at (i := 6) rfl (by kernel_rfl) (by kernel_rfl) (fun K hK => ?_)
  go_simp
  refine (of_any wgB _ m0 _ (gridM cols LL O) HRLB.out HGDB.out ⟨by have := HLNB.out; omega, HM5.out⟩).mono ?_
  rintro e woB ⟨pB, rbB, cB, rfl, gg, bb⟩
  obtain ⟨loB, hloB⟩ : ∃ lo, lo = wgB.heap.size := ⟨_, rfl⟩
  rw [← hloB] at gg
  have HLOB := Lib.hid (show W.heap.size ≤ loB by rw [hloB]; exact HX.out.size)
  have HNE := Lib.hid (show pA < loB ∧ rbA < loB by rw [hloB]; exact ⟨HGA.out.lt.1, HGA.out.lt.2.1⟩)
  have HPQ := Lib.hid (show pA ≠ pB by have h1 := HNE.out.1; have h2 := gg.lt.2.2.2; omega)
  have HRR0 := Lib.hid (show rbA ≠ rbB by have h1 := HNE.out.2; have h2 := gg.lt.2.2.1; omega)
  have HGB := Lib.hid (gg.lower (show loA ≤ loB by have h1 := HGA.out.lt; have h2 := HNE.out; omega))
  replace HGA := Lib.hid (HGA.out.below bb)
  replace HX := Lib.hid (HX.out.trans (bb.mono HX.out.size))
  replace HY := Lib.hid (HY.out.trans (bb.mono HY.out.size))
  clear gg bb hloB
  go_wp2_with fail
  refine hK.out _ _ ?_ (fun hHeld => ?_)
  · exact HSK.out _ HY.out
  clear hK K
  try go_frame
  refine tk 7 rfl (fun w hSw => by (try dsimp only at hSw); go_simp; try with_reducible rfl) ?_
  go_frame
  refine tk 8 rfl (fun w hSw => by (try dsimp only at hSw); go_simp; try with_reducible rfl) ?_
  go_frame
  refine wpAnyH_done (by kernel_rfl) ?_ _
  clear hHeld HSK
  clear HY HRLA HRLB HLL HOO HB0 HNE
  go_wp2_with fail
  refine (rows_any woB loA pA rbA cA m0 _ HGA.out HGDA.out).mono ?_
  rintro e wr1 ⟨vx, Kx, rfl, gx, hkx, _, bb⟩
  have HKX := Lib.hid (show Rl wr1 woB.heap.size vx (gridM cols LL []) from ⟨Kx, gx, hkx⟩)
  replace HGA := Lib.hid (HGA.out.below bb)
  replace HGB := Lib.hid (HGB.out.below bb)
  replace HX := Lib.hid (HX.out.trans (bb.mono HX.out.size))
  clear gx hkx bb
  go_wp2_with fail
  refine (rows_any wr1 loA pB rbB cB m0 _ HGB.out HGDB.out).mono ?_
  rintro e wr2 ⟨vy, Ky, rfl, gy, hky, _, bb⟩
  have HKY := Lib.hid (show Rl wr2 wr1.heap.size vy (gridM cols LL O) from ⟨Ky, gy, hky⟩)
  replace HKX := Lib.hid (HKX.out.below bb)
  replace HGA := Lib.hid (HGA.out.below bb)
  replace HGB := Lib.hid (HGB.out.below bb)
  replace HX := Lib.hid (HX.out.trans (bb.mono HX.out.size))
  clear gy hky bb
  have HGL0 := Lib.hid (grid_low cols LL O)
  go_wp2_with fail
  refine (seen_any wr2 _ _ vx vy _ _ HKX.out HKY.out HGL0.out (by have := HLNA.out; omega) (fun R hR => by have := HGDA.out.row R hR; have := HM5.out; omega)).mono ?_
  rintro e w4 ⟨rfl, b4⟩
  obtain ⟨A0, hA0⟩ : ∃ A, A = gridM cols LL [] := ⟨_, rfl⟩
  obtain ⟨B0, hB0⟩ : ∃ B, B = gridM cols LL O := ⟨_, rfl⟩
  rw [← hA0] at HGA HGDA HGL0
  rw [← hB0] at HGB HGDB HGL0
  replace HGA := Lib.hid (HGA.out.below b4)
  replace HGB := Lib.hid (HGB.out.below b4)
  replace HX := Lib.hid (HX.out.trans (b4.mono HX.out.size))
  clear b4 HKX HKY hA0 hB0 HLNA HLNB HM5
  obtain ⟨mm, hmm⟩ : ∃ m, m = min len 40 := ⟨_, rfl⟩
  have HMM := Lib.hid hmm
  have hm40 : mm ≤ 40 := by omega
  clear hmm
  go_wp2
  go_loopg [9] mm (fun Gs i wr => ∃ (k : Nat) (A B : List Cls) (m rba ca rbb cb : Nat), i = .int .i64 k ∧ k ≤ mm ∧ mm - k ≤ Gs ∧ Hid (Gg wr loA pA rba ca A) ∧ Hid (Gg wr loA pB rbb cb B) ∧ Hid (rba ≠ rbb) ∧ Hid (Good A m) ∧ Hid (Good B m) ∧ Hid (GLow A B) ∧ Hid (Below W.heap.size W wr))
  case atStart => exact ⟨0, A0, B0, m0, rbA, cA, rbB, cB, rfl, Nat.zero_le _, Nat.sub_le _ _, HGA, HGB, HRR0, HGDA, HGDB, HGL0, HX⟩
  case round =>
    obtain ⟨k, A, B, m, rba, ca, rbb, cb, rfl, hkn, hgk, HA, HB, HRR, HDA, HDB, HGL, HBW⟩ := hrel
    clear HGA HGB HRR0 HGDA HGDB HGL0 HX
    by_cases hlt : k < mm
    · have HLT := Lib.hid (show k + 1 ≤ mm from hlt)
      have hA : (k : Int) < (len : Int) := by have := HMM.out; omega
      have hB : (k : Int) < 40 := by omega
      have HKL := Lib.hid (show k < len by omega)
      obtain ⟨sb, so, rfl, hsb, hst⟩ := HAA.out.2.2 (by omega)
      obtain ⟨s, hs⟩ : ∃ s, s = T k := ⟨_, rfl⟩
      have HOK := Lib.hid (show s.ok by rw [hs]; exact HAA.out.2.1 k HKL.out)
      have HSK := Lib.hid (show ∀ W', Below W.heap.size W W' → (fun wx => wx.cell? ⟨sb, so + k * 11, none⟩ = some (.int .u8 (s.what : Nat)) ∧ wx.cell? ⟨sb, so + k * 11 + 1, none⟩ = some (.int .u8 (s.row : Nat)) ∧ wx.cell? ⟨sb, so + k * 11 + 2, none⟩ = some (.int .u8 (s.col : Nat)) ∧ wx.cell? ⟨sb, so + k * 11 + 3, none⟩ = some (.int .u8 (s.n : Nat)) ∧ wx.cell? ⟨sb, so + k * 11 + 4, none⟩ = some (.int .u8 (s.m : Nat)) ∧ wx.cell? ⟨sb, so + k * 11 + 5, none⟩ = some (.int .u8 (s.cell.ru : Nat)) ∧ wx.cell? ⟨sb, so + k * 11 + 6, none⟩ = some (.int .u8 (s.cell.ms : Nat)) ∧ wx.cell? ⟨sb, so + k * 11 + 7, none⟩ = some (.int .u8 (s.cell.at1 : Nat)) ∧ wx.cell? ⟨sb, so + k * 11 + 8, none⟩ = some (.bool s.cell.wide) ∧ wx.cell? ⟨sb, so + k * 11 + 9, none⟩ = some (.bool s.cell.high) ∧ wx.cell? ⟨sb, so + k * 11 + 10, none⟩ = some (.bool s.odd)) W' from fun W' kb => by
        have : S11 W' sb (so + k * 11) s := by rw [hs]; exact (hst k HKL.out).below kb hsb
        obtain ⟨z0, z1, z2, z3, z4, z5, z6, z7, z8, z9, z10⟩ := this
        exact ⟨z0, z1, z2, z3, z4, z5, z6, z7, z8, z9, z10⟩)
      have HLA := Lib.hid (show loA ≤ wr.heap.size from Nat.le_of_lt (Nat.lt_of_le_of_lt HA.out.lt.2.2.2 HA.out.lt.1))
      have HLB := Lib.hid (show loA ≤ wr.heap.size from Nat.le_of_lt (Nat.lt_of_le_of_lt HB.out.lt.2.2.2 HB.out.lt.1))
      clear hs hst hsb
      go_upto_region 9 with (fail)
      refine wp_region_held_drew (S := fun wx => wx.cell? ⟨sb, so + k * 11, none⟩ = some (.int .u8 (s.what : Nat)) ∧ wx.cell? ⟨sb, so + k * 11 + 1, none⟩ = some (.int .u8 (s.row : Nat)) ∧ wx.cell? ⟨sb, so + k * 11 + 2, none⟩ = some (.int .u8 (s.col : Nat)) ∧ wx.cell? ⟨sb, so + k * 11 + 3, none⟩ = some (.int .u8 (s.n : Nat)) ∧ wx.cell? ⟨sb, so + k * 11 + 4, none⟩ = some (.int .u8 (s.m : Nat)) ∧ wx.cell? ⟨sb, so + k * 11 + 5, none⟩ = some (.int .u8 (s.cell.ru : Nat)) ∧ wx.cell? ⟨sb, so + k * 11 + 6, none⟩ = some (.int .u8 (s.cell.ms : Nat)) ∧ wx.cell? ⟨sb, so + k * 11 + 7, none⟩ = some (.int .u8 (s.cell.at1 : Nat)) ∧ wx.cell? ⟨sb, so + k * 11 + 8, none⟩ = some (.bool s.cell.wide) ∧ wx.cell? ⟨sb, so + k * 11 + 9, none⟩ = some (.bool s.cell.high) ∧ wx.cell? ⟨sb, so + k * 11 + 10, none⟩ = some (.bool s.odd)) (by kernel_rfl) ?_ (fun hHeld => ?_)
      · exact HSK.out _ (HBW.out.drew)
      obtain ⟨wd, hwd⟩ : ∃ X, X = wr.drew := ⟨_, rfl⟩
      have HXW := Lib.hid (show Below wr.heap.size wr wd by rw [hwd]; exact (Below.refl _ _).drew)
      have HXB := Lib.hid (show Below W.heap.size W wd from HBW.out.trans (HXW.out.mono HBW.out.size))
      replace hHeld := HSK.out _ HXB.out
      rw [← hwd]
      clear hwd
      refine tk 0 rfl (fun w hSw => by (try dsimp only at hSw); go_simp; try with_reducible rfl) ?_
      go_frame
      refine tk 1 rfl (fun w hSw => by (try dsimp only at hSw); go_simp; try with_reducible rfl) ?_
      go_frame
      refine tk 2 rfl (fun w hSw => by (try dsimp only at hSw); go_simp; try with_reducible rfl) ?_
      go_frame
      refine tk 3 rfl (fun w hSw => by (try dsimp only at hSw); go_simp; try with_reducible rfl) ?_
      go_frame
      refine tk 4 rfl (fun w hSw => by (try dsimp only at hSw); go_simp; try with_reducible rfl) ?_
      go_frame
      refine tk 6 rfl (fun w hSw => by (try dsimp only at hSw); go_simp; try with_reducible rfl) ?_
      go_frame
      refine tk 7 rfl (fun w hSw => by (try dsimp only at hSw); go_simp; try with_reducible rfl) ?_
      go_frame
      refine tk 8 rfl (fun w hSw => by (try dsimp only at hSw); go_simp; try with_reducible rfl) ?_
      go_frame
      refine tk 9 rfl (fun w hSw => by (try dsimp only at hSw); go_simp; try with_reducible rfl) ?_
      go_frame
      refine tk 10 rfl (fun w hSw => by (try dsimp only at hSw); go_simp; try with_reducible rfl) ?_
      go_frame
      refine do_at (i := 5) rfl (by kernel_rfl) (by kernel_rfl) (fun K hK => ?_)
      go_simp
      have hd1 : DoesS wd loA pA rba m A s := does_any wd loA pA rba ca m A s HOK.out (HA.out.below HXW.out) HDA.out (Nat.le_trans HLA.out HXW.out.size)
      have HD1 := Lib.hid hd1
      clear hd1
      refine (show Calls _ _ _ _ _ from HD1.out).mono ?_
      rintro e w1 ⟨v1, rfl, hrl, hv1, ⟨rb5, c5, gg, hrb⟩, bt⟩
      have HXX := Lib.hid (show rba < wd.heap.size ∧ rbb < wd.heap.size from ⟨(HA.out.below HXW.out).lt.2.1, (HB.out.below HXW.out).lt.2.1⟩)
      have HB1 := Lib.hid (Gg.other (HB.out.below HXW.out) (HA.out.below HXW.out) bt (Ne.symm HPQ.out) (Ne.symm HRR.out))
      have HA1 := Lib.hid gg
      have HR1 := Lib.hid (show rb5 ≠ rbb from Or.elim hrb (fun h => by rw [h]; exact HRR.out) (fun h => by have := HXX.out; omega))
      have HV1 := Lib.hid hrl
      have HW1 := Lib.hid (show v1.ownBlock ≠ some rbb from fun h => by have := hv1 _ h; have := HXX.out; omega)
      have HXA := Lib.hid (show Below W.heap.size W w1 from (HXB.out).trans (bt.below (C := W.heap.size) (fun i hi => by have h1 := HA.out.lt; have h2 := HLOA.out; rcases hi with rfl | rfl <;> omega) HXB.out.size))
      have HL1 := Lib.hid (Nat.le_trans HLB.out (Nat.le_trans HXW.out.size bt.size))
      clear hrl hv1 gg hrb bt HD1
      go_wp2_with fail
      refine hK.out _ _ ?_ (fun hHeld => ?_)
      · exact HSK.out _ HXA.out
      clear hK K
      try go_frame
      refine do_at (i := 11) rfl (by kernel_rfl) (by kernel_rfl) (fun K hK => ?_)
      go_simp
      have hd1 : DoesS w1 loA pB rbb m B s := does_any w1 loA pB rbb cb m B s HOK.out HB1.out HDB.out HL1.out
      have HD1 := Lib.hid hd1
      clear hd1
      refine (show Calls _ _ _ _ _ from HD1.out).mono ?_
      rintro e w2 ⟨v2, rfl, hrl, _, ⟨rb6, c6, gg, hrb⟩, bt⟩
      have HXX1 := Lib.hid (show rb5 < w1.heap.size from HA1.out.lt.2.1)
      have HA2 := Lib.hid (Gg.other HA1.out HB1.out bt HPQ.out HR1.out)
      have HV1' := Lib.hid (Rl.other HV1.out HB1.out bt HW1.out)
      have HB2 := Lib.hid gg
      have HV2 := Lib.hid hrl
      have HR2 := Lib.hid (show rb5 ≠ rb6 from Or.elim hrb (fun h => by rw [h]; exact HR1.out) (fun h => by have := HXX1.out; omega))
      have HX2 := Lib.hid (show Below W.heap.size W w2 from (HXA.out).trans (bt.below (C := W.heap.size) (fun i hi => by have h1 := HB1.out.lt; have h2 := HLOA.out; rcases hi with rfl | rfl <;> omega) HXA.out.size))
      clear hrl gg hrb bt HD1
      go_wp2_with fail
      refine hK.out _ _ ?_ (fun hHeld => ?_)
      · exact HSK.out _ HX2.out
      clear hK K
      try go_frame
      refine tk 12 rfl (fun w hSw => by (try dsimp only at hSw); go_simp; try with_reducible rfl) ?_
      go_frame
      refine tk 13 rfl (fun w hSw => by (try dsimp only at hSw); go_simp; try with_reducible rfl) ?_
      go_frame
      refine wpAnyH_done (by kernel_rfl) ?_ _
      clear hHeld HSK
      obtain ⟨A5, hA5⟩ : ∃ G', G' = doesG s m A := ⟨_, rfl⟩
      obtain ⟨B5, hB5⟩ : ∃ G', G' = doesG s m B := ⟨_, rfl⟩
      obtain ⟨m5, hm5⟩ : ∃ m', m' = widthS s m := ⟨_, rfl⟩
      have HDA5 := Lib.hid (does_good s HDA.out)
      have HDB5 := Lib.hid (does_good s HDB.out)
      have HGL5 := Lib.hid (does_low HGL.out HDA.out HDB.out s)
      have HWG := Lib.hid (went_low HGL.out s)
      have HWR := Lib.hid (went_good s HDA.out)
      have HM52 := Lib.hid HDA.out.m1
      rw [← hA5] at HA2 HDA5 HGL5
      rw [← hB5] at HB2 HDB5 HGL5
      rw [← hm5] at HDA5 HDB5
      clear hA5 hB5 hm5 HA1 HB1 HV1 HW1 HR1 HXA HXB HXW HA HB HXX HXX1 HL1 HLA HLB
      go_wp2_with fail
      refine (seen_any w2 _ _ v1 v2 _ _ HV1'.out HV2.out HWG.out (by have := HWR.out.1; omega) (fun R hR => by have := HWR.out.2 R hR; have := HM52.out; omega)).mono ?_
      rintro e w3 ⟨rfl, b3⟩
      replace HA2 := Lib.hid (HA2.out.below b3)
      replace HB2 := Lib.hid (HB2.out.below b3)
      replace HX2 := Lib.hid (HX2.out.trans (b3.mono HX2.out.size))
      clear b3 HV1' HV2 HWG HWR
      go_wp2_with fail
      refine (rows_any w3 loA pA rb5 c5 m5 A5 HA2.out HDA5.out).mono ?_
      rintro e wx ⟨vx, Kx, rfl, gx, hkx, _, bb⟩
      have HKX := Lib.hid (show Rl wx w3.heap.size vx A5 from ⟨Kx, gx, hkx⟩)
      replace HA2 := Lib.hid (HA2.out.below bb)
      replace HB2 := Lib.hid (HB2.out.below bb)
      replace HX2 := Lib.hid (HX2.out.trans (bb.mono HX2.out.size))
      clear gx hkx bb
      go_wp2_with fail
      refine (rows_any wx loA pB rb6 c6 m5 B5 HB2.out HDB5.out).mono ?_
      rintro e wy ⟨vy, Ky, rfl, gy, hky, _, bb⟩
      have HKY := Lib.hid (show Rl wy wx.heap.size vy B5 from ⟨Ky, gy, hky⟩)
      replace HKX := Lib.hid (HKX.out.below bb)
      replace HA2 := Lib.hid (HA2.out.below bb)
      replace HB2 := Lib.hid (HB2.out.below bb)
      replace HX2 := Lib.hid (HX2.out.trans (bb.mono HX2.out.size))
      clear gy hky bb
      go_wp2_with fail
      refine (seen_any wy _ _ vx vy _ _ HKX.out HKY.out HGL5.out (by have := HDA5.out.n1; omega) (fun R hR => by have := HDA5.out.row R hR; have := HDA5.out.m1; omega)).mono ?_
      rintro e wz ⟨rfl, bb⟩
      replace HA2 := Lib.hid (HA2.out.below bb)
      replace HB2 := Lib.hid (HB2.out.below bb)
      replace HX2 := Lib.hid (HX2.out.trans (bb.mono HX2.out.size))
      clear bb HKX HKY
      obtain ⟨lvl, hlvl⟩ : ∃ l, l = levG A5 := ⟨_, rfl⟩
      have HLV := Lib.hid (show levG A5 = lvl ∧ levG B5 = lvl from ⟨hlvl.symm, by rw [hlvl, levG_low HGL5.out]⟩)
      have hll : (lvl != lvl) = false := by simp
      clear hlvl
      go_wp2_with fail
      refine (glevel wz loA pA rb5 c5 m5 A5 HA2.out HDA5.out).mono ?_
      rintro e wu ⟨rfl, bb⟩
      rw [HLV.out.1]
      replace HA2 := Lib.hid (HA2.out.below bb)
      replace HB2 := Lib.hid (HB2.out.below bb)
      replace HX2 := Lib.hid (HX2.out.trans (bb.mono HX2.out.size))
      clear bb
      go_wp2_with fail
      refine (glevel wu loA pB rb6 c6 m5 B5 HB2.out HDB5.out).mono ?_
      rintro e wv ⟨rfl, bb⟩
      rw [HLV.out.2]
      replace HA2 := Lib.hid (HA2.out.below bb)
      replace HB2 := Lib.hid (HB2.out.below bb)
      replace HX2 := Lib.hid (HX2.out.trans (bb.mono HX2.out.size))
      clear bb
      go_wp2
      go_roundg (mm - (k + 1))
      case rel => exact ⟨k + 1, A5, B5, m5, rb5, c5, rb6, c6, by go_num, HLT.out, Nat.le_refl _, HA2, HB2, HR2, HDA5, HDB5, HGL5, HX2⟩
      case measure => have := HLT.out; omega
    · have HBE := HBW
      clear HA HB HDA HDB HGL HRR
      obtain rfl : k = mm := by omega
      by_cases hq : k = len
      · subst hq
        go_wp2
        go_ret
        exact ⟨rfl, HBE.out⟩
      · have h40 : k = 40 := by have := HMM.out; omega
        have g8 : (40 : Int) < (len : Int) := by have := HMM.out; omega
        subst h40
        go_wp2
        go_ret
        exact ⟨rfl, HBE.out⟩
set_option maxRecDepth 100000 in
theorem gridApart_walk {H : Type} (enc : TypeId × Value → H) (base : Nat) (W : World)
    (v0 : Value) (d0 : DataW H) (p0 : List MemPlace) (ok0 : Value.okWide Tryz.prog W .any base 24 v0) (k0 : DataW.Trod enc Tryz.prog W 0 (fun _ => true) true 24 v0 d0 p0)
    (v1 : Value) (d1 : DataW H) (p1 : List MemPlace) (ok1 : Value.okWide Tryz.prog W .any base 25 v1) (k1 : DataW.Trod enc Tryz.prog W 0 (fun _ => true) true 25 v1 d1 p1)
    (v2 : Value) (d2 : DataW H) (p2 : List MemPlace) (ok2 : Value.okWide Tryz.prog W .any base 26 v2) (k2 : DataW.Trod enc Tryz.prog W 0 (fun _ => true) true 26 v2 d2 p2) :
    Calls Tryz.prog 3 #[v0, v1, v2] W fun e w' => e = .returned (.bool true) ∧ Below W.heap.size W w' := by
  obtain ⟨cols, u, LL, rfl, hL⟩ := open_gdraft enc base W ok0 k0
  obtain ⟨O, hO⟩ := open_dss enc base W ok1 k1
  obtain ⟨a, len, cap, T, rfl, hT⟩ := open_sts enc base W ok2 k2
  exact gapart_core W cols u v1 LL O a len cap T hL hO hT
end Go.Proofs.YtdeahnphcfcfpaaGreat.Lab
