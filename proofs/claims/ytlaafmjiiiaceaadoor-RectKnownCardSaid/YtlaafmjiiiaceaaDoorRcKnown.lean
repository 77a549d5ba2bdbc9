/- RectKnown. -/
import Derived.Test.YtlaafmjiiiaceaaDoorRcWorks
import Derived.Test.YtlaafmjiiiaceaaDoorWiLaid
set_option linter.unusedVariables false
namespace Go.Proofs.YtlaafmjiiiaceaaDoor.Lab
open Go Go.RowKit

set_option maxHeartbeats 8000000 in
set_option maxRecDepth 100000 in
theorem rectKnown_walk (W : World) (hT : Tabs W) : Calls Tryd.prog 7 #[] W fun e w' => e = .returned (.bool true) ∧ Below W.heap.size W w' := by
  have HT := Lib.hid hT
  have HWK := Lib.hid (works_any W hT)
  clear hT
  go_enter Tryd.func7, Tryd.ntmps7
  go_wp2_with fail
  refine HWK.out.mono ?_
  rintro e w0 ⟨rfl, b1⟩
  have HT0 := Lib.hid (HT.out.below b1)
  have HB0 := Lib.hid b1
  clear b1 HT HWK
  go_wp2_with fail
  refine (example_any w0).mono ?_
  rintro e wx ⟨x, U, rfl, rx, b1⟩
  obtain ⟨xa, xc, rfl⟩ := rx.shape
  have h5 : EX2.length = 2 := rfl
  rw [h5] at rx ⊢
  obtain ⟨b2, hb2⟩ : ∃ b, b = wx.heap.size := ⟨_, rfl⟩
  obtain ⟨w1, hw1⟩ : ∃ X, X = wx.alloc (.cells #[.int .i64 2, .int .i64 5] 66) := ⟨_, rfl⟩
  have bb : Below wx.heap.size wx w1 := by rw [hw1]; exact (Below.refl _ _).alloc (Nat.le_refl _) _
  have HX1 := Lib.hid (rx.below bb)
  have HT1 := Lib.hid ((HT0.out.below b1).below bb)
  have HL1 := Lib.hid (show Lie w1 b2 [.int .i64 2, .int .i64 5] by rw [hw1]; exact Lie.new wx _ _ b2 hb2)
  have HB1 := Lib.hid ((HB0.out.trans (b1.mono HB0.out.size)).trans (bb.mono (HB0.out.trans (b1.mono HB0.out.size)).size))
  clear rx b1 h5 HT0 HB0 bb
  go_upto_region 5 with (fail)
  rw [← hw1, ← hb2]
  clear hw1 hb2
  go_wp2_with fail
  refine (fill_c w1 _ EX2 U 3 ⟨0, 0, 9, 9⟩ (cA 20013) HT1.out HX1.out (by decide +kernel) (by decide +kernel)).mono ?_
  rintro e w2 ⟨mv, mu, rfl, rm, b1⟩
  have HX2 := Lib.hid (HX1.out.below b1)
  have HT2 := Lib.hid (HT1.out.below b1)
  have HL2 := Lib.hid (HL1.out.below b1)
  have HB2 := Lib.hid (HB1.out.trans (b1.mono HB1.out.size))
  have HM := Lib.hid rm
  clear b1 rm HX1 HT1 HB1 HL1
  go_wp2_with fail
  refine (texts_c w2 mv (if ofI (cA 20013).ru = 1 then fillG EX2 (clipM ⟨0, 0, 9, 9⟩ EX2.length 3) (cA 20013) else EX2) mu #[97, 98, 99] #[100, 101] HM.out (by decide +kernel)).mono ?_
  rintro e w3 ⟨rfl, b1⟩
  have HX3 := Lib.hid (HX2.out.below b1)
  have HT3 := Lib.hid (HT2.out.below b1)
  have HL3 := Lib.hid (HL2.out.below b1)
  have HB3 := Lib.hid (HB2.out.trans (b1.mono HB2.out.size))
  clear b1 HX2 HT2 HB2 HL2
  clear HM
  go_wp2_with fail
  refine (fill_c w3 _ EX2 U 3 ⟨0, 0, 9, 9⟩ (cA 7) HT3.out HX3.out (by decide +kernel) (by decide +kernel)).mono ?_
  rintro e w4 ⟨mv, mu, rfl, rm, b1⟩
  have HX4 := Lib.hid (HX3.out.below b1)
  have HT4 := Lib.hid (HT3.out.below b1)
  have HL4 := Lib.hid (HL3.out.below b1)
  have HB4 := Lib.hid (HB3.out.trans (b1.mono HB3.out.size))
  have HM := Lib.hid rm
  clear b1 rm HX3 HT3 HB3 HL3
  go_wp2_with fail
  refine (texts_c w4 mv (if ofI (cA 7).ru = 1 then fillG EX2 (clipM ⟨0, 0, 9, 9⟩ EX2.length 3) (cA 7) else EX2) mu #[97, 98, 99] #[100, 101] HM.out (by decide +kernel)).mono ?_
  rintro e w5 ⟨rfl, b1⟩
  have HX5 := Lib.hid (HX4.out.below b1)
  have HT5 := Lib.hid (HT4.out.below b1)
  have HL5 := Lib.hid (HL4.out.below b1)
  have HB5 := Lib.hid (HB4.out.trans (b1.mono HB4.out.size))
  clear b1 HX4 HT4 HB4 HL4
  clear HM
  go_wp2_with fail
  refine (fill_c w5 _ EX2 U 3 ⟨-1, 2, 2, 9⟩ (⟨120, 0, 0, 2, At.zero, 0⟩ : Cel) HT5.out HX5.out (by decide +kernel) (by decide +kernel)).mono ?_
  rintro e w6 ⟨mv, mu, rfl, rm, b1⟩
  have HX6 := Lib.hid (HX5.out.below b1)
  have HT6 := Lib.hid (HT5.out.below b1)
  have HL6 := Lib.hid (HL5.out.below b1)
  have HB6 := Lib.hid (HB5.out.trans (b1.mono HB5.out.size))
  have HM := Lib.hid rm
  clear b1 rm HX5 HT5 HB5 HL5
  go_wp2_with fail
  refine (texts_c w6 mv (if ofI (⟨120, 0, 0, 2, At.zero, 0⟩ : Cel).ru = 1 then fillG EX2 (clipM ⟨-1, 2, 2, 9⟩ EX2.length 3) (⟨120, 0, 0, 2, At.zero, 0⟩ : Cel) else EX2) mu #[97, 98, 120] #[100, 101] HM.out (by decide +kernel)).mono ?_
  rintro e w7 ⟨rfl, b1⟩
  have HX7 := Lib.hid (HX6.out.below b1)
  have HT7 := Lib.hid (HT6.out.below b1)
  have HL7 := Lib.hid (HL6.out.below b1)
  have HB7 := Lib.hid (HB6.out.trans (b1.mono HB6.out.size))
  clear b1 HX6 HT6 HB6 HL6
  clear HM
  go_wp2_with fail
  refine (copy_c w7 _ EX2 U 3 ⟨0, 0, 1, 3⟩ (1) (2) HX7.out (by decide +kernel) (by decide +kernel) (by decide +kernel)).mono ?_
  rintro e w8 ⟨mv, mu, rfl, rm, b1⟩
  have HX8 := Lib.hid (HX7.out.below b1)
  have HT8 := Lib.hid (HT7.out.below b1)
  have HL8 := Lib.hid (HL7.out.below b1)
  have HB8 := Lib.hid (HB7.out.trans (b1.mono HB7.out.size))
  have HM := Lib.hid rm
  clear b1 rm HX7 HT7 HB7 HL7
  go_wp2_with fail
  refine (texts_c w8 mv (copyR EX2 3 ⟨0, 0, 1, 3⟩ (1) (2)) mu #[97, 98, 99] #[100, 97] HM.out (by decide +kernel)).mono ?_
  rintro e w9 ⟨rfl, b1⟩
  have HX9 := Lib.hid (HX8.out.below b1)
  have HT9 := Lib.hid (HT8.out.below b1)
  have HL9 := Lib.hid (HL8.out.below b1)
  have HB9 := Lib.hid (HB8.out.trans (b1.mono HB8.out.size))
  clear b1 HX8 HT8 HB8 HL8
  clear HM
  go_wp2_with fail
  refine (copy_c w9 _ EX2 U 3 ⟨0, 0, 2, 3⟩ (1) (0) HX9.out (by decide +kernel) (by decide +kernel) (by decide +kernel)).mono ?_
  rintro e w10 ⟨mv, mu, rfl, rm, b1⟩
  have HX10 := Lib.hid (HX9.out.below b1)
  have HT10 := Lib.hid (HT9.out.below b1)
  have HL10 := Lib.hid (HL9.out.below b1)
  have HB10 := Lib.hid (HB9.out.trans (b1.mono HB9.out.size))
  have HM := Lib.hid rm
  clear b1 rm HX9 HT9 HB9 HL9
  go_wp2_with fail
  refine (texts_c w10 mv (copyR EX2 3 ⟨0, 0, 2, 3⟩ (1) (0)) mu #[97, 98, 99] #[97, 98, 99] HM.out (by decide +kernel)).mono ?_
  rintro e w11 ⟨rfl, b1⟩
  have HX11 := Lib.hid (HX10.out.below b1)
  have HT11 := Lib.hid (HT10.out.below b1)
  have HL11 := Lib.hid (HL10.out.below b1)
  have HB11 := Lib.hid (HB10.out.trans (b1.mono HB10.out.size))
  clear b1 HX10 HT10 HB10 HL10
  clear HM
  go_wp2_with fail
  refine (copy_c w11 _ EX2 U 3 ⟨1, 0, 1, 3⟩ (0) (2) HX11.out (by decide +kernel) (by decide +kernel) (by decide +kernel)).mono ?_
  rintro e w12 ⟨mv, mu, rfl, rm, b1⟩
  have HX12 := Lib.hid (HX11.out.below b1)
  have HT12 := Lib.hid (HT11.out.below b1)
  have HL12 := Lib.hid (HL11.out.below b1)
  have HB12 := Lib.hid (HB11.out.trans (b1.mono HB11.out.size))
  have HM := Lib.hid rm
  clear b1 rm HX11 HT11 HB11 HL11
  go_wp2_with fail
  refine (texts_c w12 mv (copyR EX2 3 ⟨1, 0, 1, 3⟩ (0) (2)) mu #[97, 98, 32] #[100, 101] HM.out (by decide +kernel)).mono ?_
  rintro e w13 ⟨rfl, b1⟩
  have HX13 := Lib.hid (HX12.out.below b1)
  have HT13 := Lib.hid (HT12.out.below b1)
  have HL13 := Lib.hid (HL12.out.below b1)
  have HB13 := Lib.hid (HB12.out.trans (b1.mono HB12.out.size))
  clear b1 HX12 HT12 HB12 HL12
  clear HM
  go_wp2_with fail
  refine (copy_c w13 _ EX2 U 3 ⟨0, 0, 2, 3⟩ (2) (0) HX13.out (by decide +kernel) (by decide +kernel) (by decide +kernel)).mono ?_
  rintro e w14 ⟨mv, mu, rfl, rm, b1⟩
  have HX14 := Lib.hid (HX13.out.below b1)
  have HT14 := Lib.hid (HT13.out.below b1)
  have HL14 := Lib.hid (HL13.out.below b1)
  have HB14 := Lib.hid (HB13.out.trans (b1.mono HB13.out.size))
  have HM := Lib.hid rm
  clear b1 rm HX13 HT13 HB13 HL13
  go_wp2_with fail
  refine (texts_c w14 mv (copyR EX2 3 ⟨0, 0, 2, 3⟩ (2) (0)) mu #[97, 98, 99] #[100, 101] HM.out (by decide +kernel)).mono ?_
  rintro e w15 ⟨rfl, b1⟩
  have HX15 := Lib.hid (HX14.out.below b1)
  have HT15 := Lib.hid (HT14.out.below b1)
  have HL15 := Lib.hid (HL14.out.below b1)
  have HB15 := Lib.hid (HB14.out.trans (b1.mono HB14.out.size))
  clear b1 HX14 HT14 HB14 HL14
  clear HM
  go_wp2_with fail
  refine (copy_c w15 _ EX2 U 3 ⟨0, 0, 1, 2⟩ (0) (1) HX15.out (by decide +kernel) (by decide +kernel) (by decide +kernel)).mono ?_
  rintro e w16 ⟨mv, mu, rfl, rm, b1⟩
  have HX16 := Lib.hid (HX15.out.below b1)
  have HT16 := Lib.hid (HT15.out.below b1)
  have HL16 := Lib.hid (HL15.out.below b1)
  have HB16 := Lib.hid (HB15.out.trans (b1.mono HB15.out.size))
  have HM := Lib.hid rm
  clear b1 rm HX15 HT15 HB15 HL15
  go_wp2_with fail
  refine (texts_c w16 mv (copyR EX2 3 ⟨0, 0, 1, 2⟩ (0) (1)) mu #[97, 97, 98] #[100, 101] HM.out (by decide +kernel)).mono ?_
  rintro e w17 ⟨rfl, b1⟩
  have HX17 := Lib.hid (HX16.out.below b1)
  have HT17 := Lib.hid (HT16.out.below b1)
  have HL17 := Lib.hid (HL16.out.below b1)
  have HB17 := Lib.hid (HB16.out.trans (b1.mono HB16.out.size))
  clear b1 HX16 HT16 HB16 HL16
  clear HM
  go_wp2_with fail
  refine (erase_c w17 _ EX2 U 3 ⟨1, 1, 1, 1⟩ (cA 0) HX17.out (by decide +kernel) (by decide +kernel)).mono ?_
  rintro e w18 ⟨mv, mu, rfl, rm, b1⟩
  have HX18 := Lib.hid (HX17.out.below b1)
  have HT18 := Lib.hid (HT17.out.below b1)
  have HL18 := Lib.hid (HL17.out.below b1)
  have HB18 := Lib.hid (HB17.out.trans (b1.mono HB17.out.size))
  have HM := Lib.hid rm
  clear b1 rm HX17 HT17 HB17 HL17
  go_wp2_with fail
  refine (texts_c w18 mv (fillG EX2 (clipM ⟨1, 1, 1, 1⟩ EX2.length 3) (cA 0)) mu #[97, 98, 99] #[32, 32, 101] HM.out (by decide +kernel)).mono ?_
  rintro e w19 ⟨rfl, b1⟩
  have HX19 := Lib.hid (HX18.out.below b1)
  have HT19 := Lib.hid (HT18.out.below b1)
  have HL19 := Lib.hid (HL18.out.below b1)
  have HB19 := Lib.hid (HB18.out.trans (b1.mono HB18.out.size))
  clear b1 HX18 HT18 HB18 HL18
  clear HM
  have m0 := HL19.out.at 0 rfl
  have m1 := HL19.out.at 1 rfl
  go_wp2_with fail
  refine (of_c w19 ⟨1, 1, 9, 9⟩ ⟨2, 0, 4, 4⟩ 10 4 2 5 true (by decide +kernel) (by decide) (by decide) (by decide) (by decide) (by decide +kernel)).mono ?_
  rintro e w20 ⟨rfl, b1⟩
  have HX20 := Lib.hid (HX19.out.below b1)
  have HT20 := Lib.hid (HT19.out.below b1)
  have HL20 := Lib.hid (HL19.out.below b1)
  have HB20 := Lib.hid (HB19.out.trans (b1.mono HB19.out.size))
  clear b1 HX19 HT19 HB19 HL19
  have hq := fun w => eqR4_self w (2) (0) (4) (4)
  clear m0 m1
  have m0 := HL20.out.at 0 rfl
  have m1 := HL20.out.at 1 rfl
  go_wp2_with fail
  refine (of_c w20 ⟨2, 2, 3, 3⟩ ⟨3, 1, 2, 2⟩ 10 4 2 5 true (by decide +kernel) (by decide) (by decide) (by decide) (by decide) (by decide +kernel)).mono ?_
  rintro e w21 ⟨rfl, b1⟩
  have HX21 := Lib.hid (HX20.out.below b1)
  have HT21 := Lib.hid (HT20.out.below b1)
  have HL21 := Lib.hid (HL20.out.below b1)
  have HB21 := Lib.hid (HB20.out.trans (b1.mono HB20.out.size))
  clear b1 HX20 HT20 HB20 HL20
  have hq := fun w => eqR4_self w (3) (1) (2) (2)
  clear m0 m1
  have m0 := HL21.out.at 0 rfl
  have m1 := HL21.out.at 1 rfl
  go_wp2_with fail
  refine (of_c w21 ⟨5, 0, 4, 0⟩ ⟨0, 0, 0, 0⟩ 10 4 2 5 false (by decide +kernel) (by decide) (by decide) (by decide) (by decide) (by decide +kernel)).mono ?_
  rintro e w22 ⟨rfl, b1⟩
  have HX22 := Lib.hid (HX21.out.below b1)
  have HT22 := Lib.hid (HT21.out.below b1)
  have HL22 := Lib.hid (HL21.out.below b1)
  have HB22 := Lib.hid (HB21.out.trans (b1.mono HB21.out.size))
  clear b1 HX21 HT21 HB21 HL21
  have hq := fun w => eqR4_self w (0) (0) (0) (0)
  clear m0 m1
  have m0 := HL22.out.at 0 rfl
  have m1 := HL22.out.at 1 rfl
  go_wp2_with fail
  refine (of_c w22 ⟨-1, -1, -1, -1⟩ ⟨0, 0, 10, 4⟩ 10 4 2 5 false (by decide +kernel) (by decide) (by decide) (by decide) (by decide) (by decide +kernel)).mono ?_
  rintro e w23 ⟨rfl, b1⟩
  have HX23 := Lib.hid (HX22.out.below b1)
  have HT23 := Lib.hid (HT22.out.below b1)
  have HL23 := Lib.hid (HL22.out.below b1)
  have HB23 := Lib.hid (HB22.out.trans (b1.mono HB22.out.size))
  clear b1 HX22 HT22 HB22 HL22
  have hq := fun w => eqR4_self w (0) (0) (10) (4)
  clear m0 m1
  go_wp2_with fail
  refine (clip_c w23 ⟨1, 1, 9223372036854775807, 9223372036854775807⟩ ⟨1, 1, 4, 4⟩ 5 5 (by decide +kernel) (by decide) (by decide) (by decide +kernel)).mono ?_
  rintro e w24 ⟨rfl, b1⟩
  have HX24 := Lib.hid (HX23.out.below b1)
  have HT24 := Lib.hid (HT23.out.below b1)
  have HL24 := Lib.hid (HL23.out.below b1)
  have HB24 := Lib.hid (HB23.out.trans (b1.mono HB23.out.size))
  clear b1 HX23 HT23 HB23 HL23
  have hq := fun w => eqR4_self w (1) (1) (4) (4)
  go_wp2_with fail
  refine (clip_c w24 ⟨-3, 0, 4, 1⟩ ⟨0, 0, 1, 1⟩ 5 5 (by decide +kernel) (by decide) (by decide) (by decide +kernel)).mono ?_
  rintro e w25 ⟨rfl, b1⟩
  have HX25 := Lib.hid (HX24.out.below b1)
  have HT25 := Lib.hid (HT24.out.below b1)
  have HL25 := Lib.hid (HL24.out.below b1)
  have HB25 := Lib.hid (HB24.out.trans (b1.mono HB24.out.size))
  clear b1 HX24 HT24 HB24 HL24
  have hq := fun w => eqR4_self w (0) (0) (1) (1)
  go_wp2_with fail
  refine (clip_c w25 ⟨5, 0, 1, 1⟩ ⟨0, 0, 0, 0⟩ 5 5 (by decide +kernel) (by decide) (by decide) (by decide +kernel)).mono ?_
  rintro e w26 ⟨rfl, b1⟩
  have HX26 := Lib.hid (HX25.out.below b1)
  have HT26 := Lib.hid (HT25.out.below b1)
  have HL26 := Lib.hid (HL25.out.below b1)
  have HB26 := Lib.hid (HB25.out.trans (b1.mono HB25.out.size))
  clear b1 HX25 HT25 HB25 HL25
  have hq := fun w => eqR4_self w (0) (0) (0) (0)
  have HNIL := Lib.hid (show GSee w26 (.slice none 0 0) [] (fun _ => undef) from ⟨none, 0, rfl, Nat.le_refl _, fun h => by simp at h, fun i hi => by simp at hi⟩)
  go_wp2_with fail
  refine (copy_c w26 _ [] (fun _ => undef) 0 ⟨0, 0, 1, 1⟩ 0 0 HNIL.out (by decide +kernel) (by decide +kernel) (by decide +kernel)).mono ?_
  rintro e w27 ⟨mv, mu, rfl, rm, b1⟩
  have HX27 := Lib.hid (HX26.out.below b1)
  have HT27 := Lib.hid (HT26.out.below b1)
  have HL27 := Lib.hid (HL26.out.below b1)
  have HB27 := Lib.hid (HB26.out.trans (b1.mono HB26.out.size))
  have HM := Lib.hid rm
  clear b1 rm HX26 HT26 HB26 HL26
  have hl0 : (copyR [] 0 ⟨0, 0, 1, 1⟩ 0 0).length = 0 := by decide +kernel
  obtain ⟨va, vc, hv⟩ := HM.out.shape
  rw [hl0] at hv
  subst hv
  clear hl0 HM HNIL
  have HNIL := Lib.hid (show GSee w27 (.slice none 0 0) [] (fun _ => undef) from ⟨none, 0, rfl, Nat.le_refl _, fun h => by simp at h, fun i hi => by simp at hi⟩)
  go_wp2_with fail
  refine (level12_any w27 _ [] (fun _ => undef) 0 none 0 0 [] HNIL.out (gg_of (by decide +kernel)) (fun j hj => by simp at hj) rfl (Nat.le_refl _) (by decide)).mono ?_
  rw [show b01 (levA [] 0 []) = 0 from rfl]
  rintro e w28 ⟨rfl, b1⟩
  have HX28 := Lib.hid (HX27.out.below b1)
  have HT28 := Lib.hid (HT27.out.below b1)
  have HL28 := Lib.hid (HL27.out.below b1)
  have HB28 := Lib.hid (HB27.out.trans (b1.mono HB27.out.size))
  clear b1 HX27 HT27 HB27 HL27
  go_wp2_with fail
  refine (level12_any w28 _ EX2 U 3 none 0 0 [] HX28.out (gg_of (by decide +kernel)) (fun j hj => by simp at hj) rfl (Nat.le_refl _) (by decide)).mono ?_
  rw [show b01 (levA EX2 3 []) = 0 from rfl]
  rintro e w29 ⟨rfl, b1⟩
  have HX29 := Lib.hid (HX28.out.below b1)
  have HT29 := Lib.hid (HT28.out.below b1)
  have HL29 := Lib.hid (HL28.out.below b1)
  have HB29 := Lib.hid (HB28.out.trans (b1.mono HB28.out.size))
  clear b1 HX28 HT28 HB28 HL28
  go_wp2
  go_ret
  exact ⟨rfl, HB29.out⟩
end Go.Proofs.YtlaafmjiiiaceaaDoor.Lab
