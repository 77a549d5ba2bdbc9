/- The examples: the helper works answers true. -/
import Derived.Test.YtlmhnebgkginkaaDoorAtForm
import Derived.Test.YtlmhnebgkginkaaDoorAtEq
namespace Go.Proofs.YtlmhnebgkginkaaDoor.Lab
open Go Go.RowKit

theorem itoa_2 (d : Nat) (h : ¬ d < 10) (h2 : d < 100) : Lib.itoa (d : Int) = [UInt8.ofNat (48 + d / 10), UInt8.ofNat (48 + d % 10)] := by
  rw [Lib.itoa_nonneg, Lib.decDigits_two h h2]
theorem itoa_3 (d : Nat) (h : ¬ d < 100) (h2 : d < 1000) : Lib.itoa (d : Int) = [UInt8.ofNat (48 + d / 100), UInt8.ofNat (48 + d / 10 % 10), UInt8.ofNat (48 + d % 10)] := by
  rw [Lib.itoa_nonneg, Lib.decDigits, dif_neg (by omega), Lib.decDigits_two (by omega) (by omega), Nat.div_div_eq_div_mul]
  rfl
theorem fmt0 : allT (paramsM ⟨⟨1, 9, 0, 0⟩, ⟨2, 1, 2, 3⟩, 257⟩) = [48, 59, 49, 59, 50, 49, 59, 57, 49, 59, 52, 56, 59, 50, 59, 49, 59, 50, 59, 51] := by
  have e : paramsM ⟨⟨1, 9, 0, 0⟩, ⟨2, 1, 2, 3⟩, 257⟩ = [[0], [1], [21], [91], [48], [2], [1], [2], [3]] := by decide +kernel
  rw [e]
  have e0 : Lib.itoa 0 = [48] := itoa_1 0 (by decide)
  have e1 : Lib.itoa 1 = [49] := itoa_1 1 (by decide)
  have e2 : Lib.itoa 2 = [50] := itoa_1 2 (by decide)
  have e3 : Lib.itoa 3 = [51] := itoa_1 3 (by decide)
  have e21 : Lib.itoa 21 = [50, 49] := itoa_2 21 (by decide) (by decide)
  have e48 : Lib.itoa 48 = [52, 56] := itoa_2 48 (by decide) (by decide)
  have e91 : Lib.itoa 91 = [57, 49] := itoa_2 91 (by decide) (by decide)
  simp [allT, rowT, joinT, numT, e0, e1, e2, e3, e21, e48, e91]

set_option maxHeartbeats 64000000 in
set_option maxRecDepth 100000 in
theorem works_any (w : World) (hP : Pow w) : Calls Tryd.prog 17 #[] w fun e w' => e = .returned (.bool true) ∧ Below w.heap.size w w' := by
  have HP := Lib.hid hP
  have HB := Lib.hid (Below.refl w.heap.size w)
  clear hP
  go_enter Tryd.func17, Tryd.ntmps17
  go_wp2_with fail
  refine (sgr_lit [49, 59, 51, 49] ⟨⟨1, 1, 0, 0⟩, ⟨0, 0, 0, 0⟩, 1⟩ (by decide) (by decide +kernel) (by decide +kernel) _).mono ?_
  rintro e w1 ⟨rfl, b⟩
  replace HB := Lib.hid (HB.out.trans (b.mono HB.out.size))
  clear b
  go_wp2_with fail
  refine (index_any 1 _).mono ?_
  rintro e w2 ⟨rfl, b⟩
  replace HB := Lib.hid (HB.out.trans (b.mono HB.out.size))
  clear b
  go_wp2_with fail
  refine (sgr_lit [51, 56, 59, 53, 59, 50, 48, 48, 59, 52] ⟨⟨1, 200, 0, 0⟩, ⟨0, 0, 0, 0⟩, 8⟩ (by decide) (by decide +kernel) (by decide +kernel) _).mono ?_
  rintro e w3 ⟨rfl, b⟩
  replace HB := Lib.hid (HB.out.trans (b.mono HB.out.size))
  clear b
  go_wp2_with fail
  refine (index_any 200 _).mono ?_
  rintro e w4 ⟨rfl, b⟩
  replace HB := Lib.hid (HB.out.trans (b.mono HB.out.size))
  clear b
  go_wp2_with fail
  refine (sgr_lit [51, 56, 59, 50, 59, 49, 59, 50, 59, 51, 48, 48, 59, 49] ⟨⟨0, 0, 0, 0⟩, ⟨0, 0, 0, 0⟩, 1⟩ (by decide) (by decide +kernel) (by decide +kernel) _).mono ?_
  rintro e w5 ⟨rfl, b⟩
  replace HB := Lib.hid (HB.out.trans (b.mono HB.out.size))
  clear b
  go_wp2_with fail
  refine (sgr_lit [51, 56, 59, 55, 59, 49] ⟨⟨0, 0, 0, 0⟩, ⟨0, 0, 0, 0⟩, 1⟩ (by decide) (by decide +kernel) (by decide +kernel) _).mono ?_
  rintro e w6 ⟨rfl, b⟩
  replace HB := Lib.hid (HB.out.trans (b.mono HB.out.size))
  clear b
  go_wp2_with fail
  refine (sgr_lit [51, 56, 59, 53] ⟨⟨0, 0, 0, 0⟩, ⟨0, 0, 0, 0⟩, 0⟩ (by decide) (by decide +kernel) (by decide +kernel) _).mono ?_
  rintro e w7 ⟨rfl, b⟩
  replace HB := Lib.hid (HB.out.trans (b.mono HB.out.size))
  clear b
  go_wp2_with fail
  refine (sgr_lit [51, 56] ⟨⟨0, 0, 0, 0⟩, ⟨0, 0, 0, 0⟩, 0⟩ (by decide) (by decide +kernel) (by decide +kernel) _).mono ?_
  rintro e w8 ⟨rfl, b⟩
  replace HB := Lib.hid (HB.out.trans (b.mono HB.out.size))
  clear b
  go_wp2_with fail
  refine (sgr_lit [52, 56, 58, 50, 58, 58, 49, 58, 50, 58, 51] ⟨⟨0, 0, 0, 0⟩, ⟨2, 1, 2, 3⟩, 0⟩ (by decide) (by decide +kernel) (by decide +kernel) _).mono ?_
  rintro e w9 ⟨rfl, b⟩
  replace HB := Lib.hid (HB.out.trans (b.mono HB.out.size))
  clear b
  go_wp2_with fail
  refine (rgb_any 1 2 3 _).mono ?_
  rintro e w10 ⟨rfl, b⟩
  replace HB := Lib.hid (HB.out.trans (b.mono HB.out.size))
  clear b
  go_wp2_with fail
  refine (index_any 9 _).mono ?_
  rintro e w11 ⟨rfl, b⟩
  replace HB := Lib.hid (HB.out.trans (b.mono HB.out.size))
  clear b
  go_wp2_with fail
  refine (rgb_any 1 2 3 _).mono ?_
  rintro e w12 ⟨rfl, b⟩
  replace HB := Lib.hid (HB.out.trans (b.mono HB.out.size))
  clear b
  go_wp2_with fail
  refine (format_lit ⟨⟨1, 9, 0, 0⟩, ⟨2, 1, 2, 3⟩, 257⟩ [48, 59, 49, 59, 50, 49, 59, 57, 49, 59, 52, 56, 59, 50, 59, 49, 59, 50, 59, 51] (by unfold At.ok Cl.ok; decide) fmt0 _ (HP.out.on HB.out)).mono ?_
  rintro e w13 ⟨rfl, b⟩
  replace HB := Lib.hid (HB.out.trans (b.mono HB.out.size))
  clear b
  go_wp2
  go_ret
  exact ⟨rfl, HB.out⟩
end Go.Proofs.YtlmhnebgkginkaaDoor.Lab
