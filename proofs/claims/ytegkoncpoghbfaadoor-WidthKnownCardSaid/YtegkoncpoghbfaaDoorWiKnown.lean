/- The Go law WidthKnown: the chapter's examples, and ends. -/
import Derived.Test.YtegkoncpoghbfaaDoorWiShown
import Derived.Test.YtegkoncpoghbfaaDoorWiLaid
import Derived.ProofKit
import Derived.OpenShut
namespace Go.Proofs.YtegkoncpoghbfaaDoor.Lab
open Go.RowKit Go.Lib

theorem shown_four {w0 w : World} (h : St w0 w) : Calls Tryd.prog 13 #[.slice (some ⟨w.heap.size, 0, none⟩) 4 4] (w.alloc (.cells #[.int .i32 97, .int .i32 7, .int .i32 55296, .int .i32 20013] 21)) fun e w' => e = .returned (.string ⟨#[97, 228, 184, 173]⟩) ∧ Below w.heap.size w w' := by
  have e : runesBytes (([97, 7, 55296, 20013] : List Int).filter shownB) = ⟨#[97, 228, 184, 173]⟩ := by kernel_rfl
  rw [← e]
  refine (shown_any _ 4 4 [97, 7, 55296, 20013] _ (h.1.past _) ⟨rfl, .inr ⟨w.heap.size, 0, rfl, by simp, ?_⟩⟩ (by omega)).mono fun e w' ⟨h1, h2⟩ => ⟨h1, ((Below.refl _ _).alloc (Nat.le_refl _) _).trans (h2.mono (by simp))⟩
  intro i hi
  rw [World.cell?_alloc_at _ _ _ _ rfl]
  match i, hi with
  | 0, _ => rfl
  | 1, _ => rfl
  | 2, _ => rfl
  | 3, _ => rfl

set_option maxRecDepth 100000 in
set_option maxHeartbeats 4000000 in
theorem widthKnown_any {w : World} (hT : Tabs w) : Calls Tryd.prog 6 #[] w fun e w' => e = .returned (.bool true) ∧ Below w.heap.size w w' := by
  have H0 := Lib.hid (St.here hT)
  clear hT
  go_enter Tryd.func6, Tryd.ntmps6
  go_wp2_with fail
  refine (works_any H0.out.1).mono ?_
  rintro e w1 ⟨rfl, hb⟩
  have H1 := Lib.hid (H0.out.on hb)
  clear hb H0
  go_wp2_with fail
  refine (text_val ⟨#[]⟩ 0 (by decide +kernel) (by decide) H1.out.1).mono ?_
  rintro e w2 ⟨rfl, hb⟩
  have H2 := Lib.hid (H1.out.on hb)
  clear hb H1
  go_wp2_with fail
  refine (fits_yes ⟨#[]⟩ 5 ⟨#[]⟩ 0 (by kernel_rfl) (by decide +kernel) (by decide) H2.out.1).mono ?_
  rintro e w3 ⟨rfl, hb⟩
  have H3 := Lib.hid (H2.out.on hb)
  clear hb H2
  go_wp2_with fail
  refine (fits_yes ⟨#[97, 98, 99]⟩ 0 ⟨#[]⟩ 0 (by kernel_rfl) (by decide +kernel) (by decide) H3.out.1).mono ?_
  rintro e w4 ⟨rfl, hb⟩
  have H4 := Lib.hid (H3.out.on hb)
  clear hb H3
  go_wp2_with fail
  refine (fits_yes ⟨#[97, 98, 99]⟩ (-1) ⟨#[]⟩ 0 (by kernel_rfl) (by decide +kernel) (by decide) H4.out.1).mono ?_
  rintro e w5 ⟨rfl, hb⟩
  have H5 := Lib.hid (H4.out.on hb)
  clear hb H4
  go_wp2_with fail
  refine (fits_yes ⟨#[204, 129, 97]⟩ 0 ⟨#[204, 129]⟩ 0 (by kernel_rfl) (by decide +kernel) (by decide) H5.out.1).mono ?_
  rintro e w6 ⟨rfl, hb⟩
  have H6 := Lib.hid (H5.out.on hb)
  clear hb H5
  go_wp2_with fail
  refine (fits_yes ⟨#[7, 97, 7, 98]⟩ 1 ⟨#[7, 97, 7]⟩ 1 (by kernel_rfl) (by decide +kernel) (by decide) H6.out.1).mono ?_
  rintro e w7 ⟨rfl, hb⟩
  have H7 := Lib.hid (H6.out.on hb)
  clear hb H6
  go_wp2_with fail
  refine (fits_yes ⟨#[228, 184, 173]⟩ 1 ⟨#[]⟩ 0 (by kernel_rfl) (by decide +kernel) (by decide) H7.out.1).mono ?_
  rintro e w8 ⟨rfl, hb⟩
  have H8 := Lib.hid (H7.out.on hb)
  clear hb H7
  go_wp2_with fail
  refine (fits_yes ⟨#[228, 184, 173, 230, 150, 135]⟩ 3 ⟨#[228, 184, 173]⟩ 2 (by kernel_rfl) (by decide +kernel) (by decide) H8.out.1).mono ?_
  rintro e w9 ⟨rfl, hb⟩
  have H9 := Lib.hid (H8.out.on hb)
  clear hb H8
  go_wp2_with fail
  refine (text_val ⟨#[255, 228]⟩ 2 (by decide +kernel) (by decide) H9.out.1).mono ?_
  rintro e w10 ⟨rfl, hb⟩
  have H10 := Lib.hid (H9.out.on hb)
  clear hb H9
  go_wp2_with fail
  refine (fits_yes ⟨#[255, 228]⟩ 1 ⟨#[255]⟩ 1 (by kernel_rfl) (by decide +kernel) (by decide) H10.out.1).mono ?_
  rintro e w11 ⟨rfl, hb⟩
  have H11 := Lib.hid (H10.out.on hb)
  clear hb H10
  go_wp2_with fail
  refine (of_val 12331 0 (by decide +kernel) H11.out.1).mono ?_
  rintro e w12 ⟨rfl, hb⟩
  have H12 := Lib.hid (H11.out.on hb)
  clear hb H11
  go_wp2_with fail
  refine (of_val 12351 1 (by decide +kernel) H12.out.1).mono ?_
  rintro e w13 ⟨rfl, hb⟩
  have H13 := Lib.hid (H12.out.on hb)
  clear hb H12
  go_wp2_with fail
  refine (of_val 12352 1 (by decide +kernel) H13.out.1).mono ?_
  rintro e w14 ⟨rfl, hb⟩
  have H14 := Lib.hid (H13.out.on hb)
  clear hb H13
  go_wp2_with fail
  refine (of_val 127 (-1) (by decide +kernel) H14.out.1).mono ?_
  rintro e w15 ⟨rfl, hb⟩
  have H15 := Lib.hid (H14.out.on hb)
  clear hb H14
  go_wp2_with fail
  refine (of_val 160 1 (by decide +kernel) H15.out.1).mono ?_
  rintro e w16 ⟨rfl, hb⟩
  have H16 := Lib.hid (H15.out.on hb)
  clear hb H15
  go_wp2_with fail
  refine (of_val 65279 0 (by decide +kernel) H16.out.1).mono ?_
  rintro e w17 ⟨rfl, hb⟩
  have H17 := Lib.hid (H16.out.on hb)
  clear hb H16
  go_wp2_with fail
  refine (of_val 1114111 1 (by decide +kernel) H17.out.1).mono ?_
  rintro e w18 ⟨rfl, hb⟩
  have H18 := Lib.hid (H17.out.on hb)
  clear hb H17
  go_wp2_with fail
  refine (shown_nil H18.out.1).mono ?_
  rintro e w19 ⟨rfl, hb⟩
  have H19 := Lib.hid (H18.out.on hb)
  clear hb H18
  go_wp2_with fail
  refine (shown_four H19.out).mono ?_
  rintro e w20 ⟨rfl, hb⟩
  have H20 := Lib.hid (H19.out.on hb)
  clear hb H19
  go_wp2_with fail
  refine (mark_val 97 false (by decide +kernel) H20.out.1).mono ?_
  rintro e w21 ⟨rfl, hb⟩
  have H21 := Lib.hid (H20.out.on hb)
  clear hb H20
  go_wp2_with fail
  refine (wide_val 97 false (by decide +kernel) H21.out.1).mono ?_
  rintro e w22 ⟨rfl, hb⟩
  have H22 := Lib.hid (H21.out.on hb)
  clear hb H21
  go_wp2_with fail
  refine (mark_val 7 false (by decide +kernel) H22.out.1).mono ?_
  rintro e w23 ⟨rfl, hb⟩
  have H23 := Lib.hid (H22.out.on hb)
  clear hb H22
  go_wp2
  go_ret
  exact ⟨rfl, H23.out.2⟩

theorem widthKnown_walk (W : World) (hT : Tabs W) : Calls Tryd.prog 6 #[] W fun e w' => e = .returned (.bool true) ∧ Below W.heap.size W w' := widthKnown_any hT
end Go.Proofs.YtegkoncpoghbfaaDoor.Lab
