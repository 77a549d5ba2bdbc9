/- The examples: the helper works answers true. -/
import Derived.Test.YtijnjeibnochpaaDoorPaNum
import Derived.Lib.ItoaMem
namespace Go.Proofs.YtijnjeibnochpaaDoor.Lab
open Go.RowKit

theorem good_of {l : List UInt8} (h : l.all (fun c => decide (good c)) = true) : AllGood ⟨l.toArray⟩ := by
  intro k hk
  have := List.all_eq_true.1 h
  refine of_decide_eq_true (this _ ?_)
  show l.toArray[k] ∈ l
  simp

theorem lit1 (w : World) (r0 : List Int) (h0 : r0.length ≤ maxLen) : RowsAt ((w.alloc (.cells (intsV r0).toArray 3)).alloc (.cells #[.slice (some ⟨w.heap.size, 0, none⟩) r0.length r0.length] 33)) w.heap.size (.slice (some ⟨w.heap.size + 1, 0, none⟩) 1 1) [r0] := by
  refine RowsAt.lit _ w.heap.size 1 _ [.slice (some ⟨w.heap.size, 0, none⟩) r0.length r0.length] [r0] rfl rfl (by simp) (by simp) (by simp [maxLen]) fun i hi => ?_
  have hi' : i < 1 := hi
  obtain rfl : i = 0 := by omega
  · exact IntsAt.lit _ w.heap.size r0.length _ r0 rfl (by simp) (by simp) h0
theorem lit2 (w : World) (r0 r1 : List Int) (h0 : r0.length ≤ maxLen) (h1 : r1.length ≤ maxLen) : RowsAt (((w.alloc (.cells (intsV r0).toArray 3)).alloc (.cells (intsV r1).toArray 3)).alloc (.cells #[.slice (some ⟨w.heap.size, 0, none⟩) r0.length r0.length, .slice (some ⟨w.heap.size + 1, 0, none⟩) r1.length r1.length] 33)) w.heap.size (.slice (some ⟨w.heap.size + 2, 0, none⟩) 2 2) [r0, r1] := by
  refine RowsAt.lit _ w.heap.size 2 _ [.slice (some ⟨w.heap.size, 0, none⟩) r0.length r0.length, .slice (some ⟨w.heap.size + 1, 0, none⟩) r1.length r1.length] [r0, r1] rfl rfl (by simp) (by simp; try omega) (by simp [maxLen]) fun i hi => ?_
  have hi' : i < 2 := hi
  obtain rfl | rfl : i = 0 ∨ i = 1 := by omega
  · exact (IntsAt.lit _ w.heap.size r0.length _ r0 rfl (by simp) (by simp) h0).past _
  · exact IntsAt.lit _ w.heap.size r1.length _ r1 rfl (by simp) (by simp) h1
theorem lit3 (w : World) (r0 r1 r2 : List Int) (h0 : r0.length ≤ maxLen) (h1 : r1.length ≤ maxLen) (h2 : r2.length ≤ maxLen) : RowsAt ((((w.alloc (.cells (intsV r0).toArray 3)).alloc (.cells (intsV r1).toArray 3)).alloc (.cells (intsV r2).toArray 3)).alloc (.cells #[.slice (some ⟨w.heap.size, 0, none⟩) r0.length r0.length, .slice (some ⟨w.heap.size + 1, 0, none⟩) r1.length r1.length, .slice (some ⟨w.heap.size + 2, 0, none⟩) r2.length r2.length] 33)) w.heap.size (.slice (some ⟨w.heap.size + 3, 0, none⟩) 3 3) [r0, r1, r2] := by
  refine RowsAt.lit _ w.heap.size 3 _ [.slice (some ⟨w.heap.size, 0, none⟩) r0.length r0.length, .slice (some ⟨w.heap.size + 1, 0, none⟩) r1.length r1.length, .slice (some ⟨w.heap.size + 2, 0, none⟩) r2.length r2.length] [r0, r1, r2] rfl rfl (by simp) (by simp; try omega) (by simp [maxLen]) fun i hi => ?_
  have hi' : i < 3 := hi
  obtain rfl | rfl | rfl : i = 0 ∨ i = 1 ∨ i = 2 := by omega
  · exact ((IntsAt.lit _ w.heap.size r0.length _ r0 rfl (by simp) (by simp) h0).past _).past _
  · exact (IntsAt.lit _ w.heap.size r1.length _ r1 rfl (by simp) (by simp) h1).past _
  · exact IntsAt.lit _ w.heap.size r2.length _ r2 rfl (by simp) (by simp; try omega) h2
theorem all_lit : allT [[4, 3], [-1], [7]] = [52, 58, 51, 59, 59, 55] := by
  have e4 : Lib.itoa 4 = [52] := (Lib.itoa_nonneg 4).trans (Lib.decDigits_one (by decide))
  have e3 : Lib.itoa 3 = [51] := (Lib.itoa_nonneg 3).trans (Lib.decDigits_one (by decide))
  have e7 : Lib.itoa 7 = [55] := (Lib.itoa_nonneg 7).trans (Lib.decDigits_one (by decide))
  simp [allT, rowT, joinT, numT, e4, e3, e7]

set_option maxHeartbeats 8000000 in
set_option maxRecDepth 100000 in
theorem works_any (w : World) (hP : Pow w) : Calls Tryd.prog 6 #[] w fun e w' => e = .returned (.bool true) ∧ Below w.heap.size w w' := by
  have HP := Lib.hid hP
  clear hP
  have hbad : ∀ k (h : k < (⟨#[49, 97]⟩ : ByteArray).size), k < 1 → good (⟨#[49, 97]⟩ : ByteArray)[k] := by
    intro k h hk
    have e : k = 0 := by omega
    subst e
    exact (show good 49 by decide)
  have HBAD := Lib.hid hbad
  clear hbad
  go_enter Tryd.func6, Tryd.ntmps6
  go_wp2_with fail
  refine (parse_no ⟨#[49, 97]⟩ (by decide) 1 (by decide) HBAD.out (by decide) _).mono ?_
  rintro e w1 ⟨rfl, b1⟩
  have HB1 := Lib.hid b1
  clear b1
  go_wp2_with fail
  refine (parse_ok ⟨#[48, 59, 51]⟩ (by decide) (good_of (l := [48, 59, 51]) (by decide)) _).mono ?_
  rintro e w2 ⟨vp, rfl, R2, b2⟩
  have HR2 := Lib.hid (show RowsAt w2 w1.heap.size vp [[0], [3]] from R2)
  have HB2 := Lib.hid (HB1.out.trans (b2.mono HB1.out.size))
  clear R2 b2 HB1
  go_wp2_with fail
  refine (reads_any ⟨#[]⟩ (by decide) (good_of (l := []) (by decide)) _ 0 (.slice none 0 0) (RowsAt.nil _ _)).mono ?_
  rintro e w3 ⟨rfl, b3⟩
  have HC3 := Lib.hid b3
  have HB3 := Lib.hid (HB2.out.trans (HC3.out.mono HB2.out.size))
  have HR3 := Lib.hid (HR2.out.below HC3.out)
  clear b3 HC3 HR2 HB2
  go_wp2_with fail
  refine (reads_any ⟨#[53]⟩ (by decide) (good_of (l := [53]) (by decide)) _ _ _ (lit1 w3 [5] (by simp [maxLen]))).mono ?_
  rintro e w4 ⟨rfl, b4⟩
  have HC4 := Lib.hid (show Below w3.heap.size w3 w4 from (((Below.refl _ _).alloc (by simp) _).alloc (by simp; try omega) _).trans (b4.mono (by simp; try omega)))
  have HB4 := Lib.hid (HB3.out.trans (HC4.out.mono HB3.out.size))
  have HR4 := Lib.hid (HR3.out.below HC4.out)
  clear b4 HC4 HR3 HB3
  go_wp2_with fail
  refine (reads_any ⟨#[59, 59]⟩ (by decide) (good_of (l := [59, 59]) (by decide)) _ _ _ (lit3 w4 [-1] [-1] [-1] (by simp [maxLen]) (by simp [maxLen]) (by simp [maxLen]))).mono ?_
  rintro e w5 ⟨rfl, b5⟩
  have HC5 := Lib.hid (show Below w4.heap.size w4 w5 from (((((Below.refl _ _).alloc (by simp) _).alloc (by simp; try omega) _).alloc (by simp; try omega) _).alloc (by simp; try omega) _).trans (b5.mono (by simp; try omega)))
  have HB5 := Lib.hid (HB4.out.trans (HC5.out.mono HB4.out.size))
  have HR5 := Lib.hid (HR4.out.below HC5.out)
  clear b5 HC5 HR4 HB4
  go_wp2_with fail
  refine (reads_any ⟨#[49, 59, 59, 55, 48, 48, 48, 48]⟩ (by decide) (good_of (l := [49, 59, 59, 55, 48, 48, 48, 48]) (by decide)) _ _ _ (lit3 w5 [1] [-1] [65535] (by simp [maxLen]) (by simp [maxLen]) (by simp [maxLen]))).mono ?_
  rintro e w6 ⟨rfl, b6⟩
  have HC6 := Lib.hid (show Below w5.heap.size w5 w6 from (((((Below.refl _ _).alloc (by simp) _).alloc (by simp; try omega) _).alloc (by simp; try omega) _).alloc (by simp; try omega) _).trans (b6.mono (by simp; try omega)))
  have HB6 := Lib.hid (HB5.out.trans (HC6.out.mono HB5.out.size))
  have HR6 := Lib.hid (HR5.out.below HC6.out)
  clear b6 HC6 HR5 HB5
  go_wp2_with fail
  refine (reads_any ⟨#[51, 56, 58, 50, 58, 58, 55, 59, 49]⟩ (by decide) (good_of (l := [51, 56, 58, 50, 58, 58, 55, 59, 49]) (by decide)) _ _ _ (lit2 w6 [38, 2, -1, 7] [1] (by simp [maxLen]) (by simp [maxLen]))).mono ?_
  rintro e w7 ⟨rfl, b7⟩
  have HC7 := Lib.hid (show Below w6.heap.size w6 w7 from ((((Below.refl _ _).alloc (by simp) _).alloc (by simp; try omega) _).alloc (by simp; try omega) _).trans (b7.mono (by simp; try omega)))
  have HB7 := Lib.hid (HB6.out.trans (HC7.out.mono HB6.out.size))
  have HR7 := Lib.hid (HR6.out.below HC7.out)
  clear b7 HC7 HR6 HB6
  have HOK : Hid (∀ r ∈ ([[0], [3]] : Rws), okRow r) := Lib.hid (by intro r hr; simp at hr; rcases hr with rfl | rfl <;> (unfold okRow; simp))
  go_wp2_with fail
  refine (num_any _ _ vp [[0], [3]] 0 9 HR7.out (by decide) HOK.out).mono ?_
  rintro e wx ⟨rfl, rfl⟩
  go_wp2_with fail
  refine (num_any _ _ vp [[0], [3]] 1 9 HR7.out (by decide) HOK.out).mono ?_
  rintro e wx ⟨rfl, rfl⟩
  go_wp2_with fail
  refine (num_any _ _ vp [[0], [3]] 2 9 HR7.out (by decide) HOK.out).mono ?_
  rintro e wx ⟨rfl, rfl⟩
  go_wp2_with fail
  refine (said_any _ _ vp [[0], [3]] 0 9 HR7.out (by decide) HOK.out).mono ?_
  rintro e wx ⟨rfl, rfl⟩
  go_wp2_with fail
  refine (said_any _ _ vp [[0], [3]] 1 9 HR7.out (by decide) HOK.out).mono ?_
  rintro e wx ⟨rfl, rfl⟩
  go_wp2_with fail
  refine (said_any _ _ vp [[0], [3]] 2 9 HR7.out (by decide) HOK.out).mono ?_
  rintro e wx ⟨rfl, rfl⟩
  go_wp2_with fail
  have HT := Lib.hid all_lit
  refine (write_any _ _ _ [[4, 3], [-1], [7]] (lit3 w7 [4, 3] [-1] [7] (by simp [maxLen]) (by simp [maxLen]) (by simp [maxLen])) ?okr ?pw).mono ?_
  case okr => exact ⟨by decide, by intro r hr; simp at hr; rcases hr with rfl | rfl | rfl <;> simp⟩
  case pw => exact HP.out.on (HB7.out.trans ((((((Below.refl _ _).alloc (by simp) _).alloc (by simp; try omega) _).alloc (by simp; try omega) _).alloc (by simp; try omega) _).mono HB7.out.size))
  rintro e wz ⟨rfl, bz⟩
  rw [HT.out]
  have HZ := Lib.hid (HB7.out.trans (((((((Below.refl _ w7).alloc (by simp) _).alloc (by simp; try omega) _).alloc (by simp; try omega) _).alloc (by simp; try omega) _).trans (bz.mono (by simp; try omega))).mono HB7.out.size))
  clear bz
  go_wp2
  go_ret
  exact ⟨rfl, HZ.out⟩
end Go.Proofs.YtijnjeibnochpaaDoor.Lab
