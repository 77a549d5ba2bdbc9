/- The helper 'fits' of the statements at a known text, and what each closed call answers. -/
import Derived.Test.YtegkoncpoghbfaaDoorWiText
namespace Go.Proofs.YtegkoncpoghbfaaDoor.Lab
open Go.RowKit Go.Lib

/-- The tables lie in memory; nothing elder has turned. -/
def St (w0 w : World) : Prop := Tabs w ∧ Below w0.heap.size w0 w
theorem St.here {w : World} (h : Tabs w) : St w w := ⟨h, Below.refl _ _⟩
theorem St.on {w0 w w' : World} (h : St w0 w) (hb : Below w.heap.size w w') : St w0 w' := ⟨h.1.below hb, h.2.trans (hb.mono h.2.size)⟩

theorem of_val (x v : Int) (h : ofI x = v) {w : World} (hT : Tabs w) : Calls Tryd.prog 12 #[.int .i32 x] w fun e w' => e = .returned (.int .i64 v) ∧ Below w.heap.size w w' := by
  subst h; exact of_any x w hT
theorem mark_val (x : Int) (v : Bool) (h : markB x = v) {w : World} (hT : Tabs w) : Calls Tryd.prog 14 #[.int .i32 x] w fun e w' => e = .returned (.bool v) ∧ Below w.heap.size w w' := by
  subst h; exact mark_any x w hT
theorem wide_val (x : Int) (v : Bool) (h : wideB x = v) {w : World} (hT : Tabs w) : Calls Tryd.prog 15 #[.int .i32 x] w fun e w' => e = .returned (.bool v) ∧ Below w.heap.size w w' := by
  subst h; exact wide_any x w hT
theorem text_val (s : ByteArray) (v : Int) (h : tx s = v) (hs : s.size ≤ 1000000) {w : World} (hT : Tabs w) : Calls Tryd.prog 9 #[.string s] w fun e w' => e = .returned (.int .i64 v) ∧ Below w.heap.size w w' := by
  subst h; exact text_any s w hT hs

set_option maxHeartbeats 1000000 in
theorem fits_yes (s : ByteArray) (cols : Int) (want : ByteArray) (n : Int) (h1 : s.extract 0 (fitN cols s) = want) (h2 : fitC cols s = n) (hs : s.size ≤ 1000000) {w : World} (hT : Tabs w) :
    Calls Tryd.prog 16 #[.string s, .int .i64 cols, .string want, .int .i64 n] w fun e w' => e = .returned (.bool true) ∧ Below w.heap.size w w' := by
  have H := Lib.hid hT
  have C := fun (w : World) (h : Tabs w) => fit_any s cols w h hs
  rw [h1, h2] at C
  clear hT h1 h2 hs
  go_enter Tryd.func16, Tryd.ntmps16
  go_wp2_with fail
  refine (C _ H.out).mono ?_
  rintro e w5 ⟨rfl, hb5⟩
  have HB := Lib.hid hb5
  clear hb5 C
  go_wp2
  go_ret
  exact ⟨rfl, HB.out⟩

set_option maxRecDepth 100000 in
set_option maxHeartbeats 2000000 in
theorem works_any {w : World} (hT : Tabs w) : Calls Tryd.prog 7 #[] w fun e w' => e = .returned (.bool true) ∧ Below w.heap.size w w' := by
  have H0 := Lib.hid (St.here hT)
  clear hT
  go_enter Tryd.func7, Tryd.ntmps7
  go_wp2_with fail
  refine (of_val 97 1 (by decide +kernel) H0.out.1).mono ?_
  rintro e w1 ⟨rfl, hb⟩
  have H1 := Lib.hid (H0.out.on hb)
  clear hb H0
  go_wp2_with fail
  refine (of_val 769 0 (by decide +kernel) H1.out.1).mono ?_
  rintro e w2 ⟨rfl, hb⟩
  have H2 := Lib.hid (H1.out.on hb)
  clear hb H1
  go_wp2_with fail
  refine (of_val 20013 2 (by decide +kernel) H2.out.1).mono ?_
  rintro e w3 ⟨rfl, hb⟩
  have H3 := Lib.hid (H2.out.on hb)
  clear hb H2
  go_wp2_with fail
  refine (of_val 128512 2 (by decide +kernel) H3.out.1).mono ?_
  rintro e w4 ⟨rfl, hb⟩
  have H4 := Lib.hid (H3.out.on hb)
  clear hb H3
  go_wp2_with fail
  refine (of_val 7 (-1) (by decide +kernel) H4.out.1).mono ?_
  rintro e w5 ⟨rfl, hb⟩
  have H5 := Lib.hid (H4.out.on hb)
  clear hb H4
  go_wp2_with fail
  refine (of_val 233 1 (by decide +kernel) H5.out.1).mono ?_
  rintro e w6 ⟨rfl, hb⟩
  have H6 := Lib.hid (H5.out.on hb)
  clear hb H5
  go_wp2_with fail
  refine (of_val 65533 1 (by decide +kernel) H6.out.1).mono ?_
  rintro e w7 ⟨rfl, hb⟩
  have H7 := Lib.hid (H6.out.on hb)
  clear hb H6
  go_wp2_with fail
  refine (text_val ⟨#[97, 228, 184, 173, 98]⟩ 4 (by decide +kernel) (by decide) H7.out.1).mono ?_
  rintro e w8 ⟨rfl, hb⟩
  have H8 := Lib.hid (H7.out.on hb)
  clear hb H7
  go_wp2_with fail
  refine (text_val ⟨#[101, 204, 129]⟩ 1 (by decide +kernel) (by decide) H8.out.1).mono ?_
  rintro e w9 ⟨rfl, hb⟩
  have H9 := Lib.hid (H8.out.on hb)
  clear hb H8
  go_wp2_with fail
  refine (fits_yes ⟨#[97, 228, 184, 173, 98]⟩ 2 ⟨#[97]⟩ 1 (by kernel_rfl) (by decide +kernel) (by decide) H9.out.1).mono ?_
  rintro e w10 ⟨rfl, hb⟩
  have H10 := Lib.hid (H9.out.on hb)
  clear hb H9
  go_wp2_with fail
  refine (fits_yes ⟨#[97, 228, 184, 173, 98]⟩ 3 ⟨#[97, 228, 184, 173]⟩ 3 (by kernel_rfl) (by decide +kernel) (by decide) H10.out.1).mono ?_
  rintro e w11 ⟨rfl, hb⟩
  have H11 := Lib.hid (H10.out.on hb)
  clear hb H10
  go_wp2
  go_ret
  exact ⟨rfl, H11.out.2⟩
end Go.Proofs.YtegkoncpoghbfaaDoor.Lab
