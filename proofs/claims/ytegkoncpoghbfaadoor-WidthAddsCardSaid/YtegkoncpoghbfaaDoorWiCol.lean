/- What width.Of, Mark, Wide and columns answer of any rune. -/
import Derived.Test.YtegkoncpoghbfaaDoorWiOf
namespace Go.Proofs.YtegkoncpoghbfaaDoor.Lab
open Go.RowKit

set_option maxHeartbeats 4000000 in
theorem of_any (x : Int) (w : World) (hT : Tabs w) :
    Calls Tryd.prog 12 #[.int .i32 x] w fun e w' => e = .returned (.int .i64 (ofI x)) ∧ Below w.heap.size w w' := by
  have H := Lib.hid hT
  clear hT
  unfold ofI
  cases h1 : inB unshownT x with
  | true =>
    have c1 : ∀ w, TabAt w 0 unshownT → Calls Tryd.prog 20 #[.int .i32 x, .int .i64 4, .func (.func 21) #[] #[]] w fun e w' => e = .returned (.bool true) ∧ Below w.heap.size w w' := fun w h => by rw [← h1]; exact among1 x w h
    clear h1
    go_enter Tryd.func12, Tryd.ntmps12
    go_wp2_with fail
    refine (c1 _ H.out.1).mono ?_
    rintro e w5 ⟨rfl, hb5⟩
    go_wp2
    go_ret
    exact ⟨rfl, hb5⟩
  | false =>
    have c1 : ∀ w, TabAt w 0 unshownT → Calls Tryd.prog 20 #[.int .i32 x, .int .i64 4, .func (.func 21) #[] #[]] w fun e w' => e = .returned (.bool false) ∧ Below w.heap.size w w' := fun w h => by rw [← h1]; exact among1 x w h
    clear h1
    cases h2 : inB marksT x with
    | true =>
      have c2 : ∀ w, TabAt w 1 marksT → Calls Tryd.prog 20 #[.int .i32 x, .int .i64 32, .func (.func 22) #[] #[]] w fun e w' => e = .returned (.bool true) ∧ Below w.heap.size w w' := fun w h => by rw [← h2]; exact among2 x w h
      clear h2
      go_enter Tryd.func12, Tryd.ntmps12
      go_wp2_with fail
      refine (c1 _ H.out.1).mono ?_
      rintro e w5 ⟨rfl, hb5⟩
      have H5 := Lib.hid (H.out.below hb5)
      have HB := Lib.hid hb5
      clear hb5
      go_wp2_with fail
      refine (c2 _ H5.out.2.1).mono ?_
      rintro e w6 ⟨rfl, hb6⟩
      have HB6 := Lib.hid (HB.out.trans (hb6.mono HB.out.size))
      clear hb6
      go_wp2
      go_ret
      exact ⟨rfl, HB6.out⟩
    | false =>
      have c2 : ∀ w, TabAt w 1 marksT → Calls Tryd.prog 20 #[.int .i32 x, .int .i64 32, .func (.func 22) #[] #[]] w fun e w' => e = .returned (.bool false) ∧ Below w.heap.size w w' := fun w h => by rw [← h2]; exact among2 x w h
      clear h2
      cases h3 : inB broadT x with
      | true =>
        have c3 : ∀ w, TabAt w 2 broadT → Calls Tryd.prog 20 #[.int .i32 x, .int .i64 15, .func (.func 23) #[] #[]] w fun e w' => e = .returned (.bool true) ∧ Below w.heap.size w w' := fun w h => by rw [← h3]; exact among3 x w h
        clear h3
        go_enter Tryd.func12, Tryd.ntmps12
        go_wp2_with fail
        refine (c1 _ H.out.1).mono ?_
        rintro e w5 ⟨rfl, hb5⟩
        have H5 := Lib.hid (H.out.below hb5)
        have HB := Lib.hid hb5
        clear hb5
        go_wp2_with fail
        refine (c2 _ H5.out.2.1).mono ?_
        rintro e w6 ⟨rfl, hb6⟩
        have H6 := Lib.hid (H5.out.below hb6)
        have HB6 := Lib.hid (HB.out.trans (hb6.mono HB.out.size))
        clear hb6
        go_wp2_with fail
        refine (c3 _ H6.out.2.2).mono ?_
        rintro e w7 ⟨rfl, hb7⟩
        have HB7 := Lib.hid (HB6.out.trans (hb7.mono HB6.out.size))
        clear hb7
        go_wp2
        go_ret
        exact ⟨rfl, HB7.out⟩
      | false =>
        have c3 : ∀ w, TabAt w 2 broadT → Calls Tryd.prog 20 #[.int .i32 x, .int .i64 15, .func (.func 23) #[] #[]] w fun e w' => e = .returned (.bool false) ∧ Below w.heap.size w w' := fun w h => by rw [← h3]; exact among3 x w h
        clear h3
        go_enter Tryd.func12, Tryd.ntmps12
        go_wp2_with fail
        refine (c1 _ H.out.1).mono ?_
        rintro e w5 ⟨rfl, hb5⟩
        have H5 := Lib.hid (H.out.below hb5)
        have HB := Lib.hid hb5
        clear hb5
        go_wp2_with fail
        refine (c2 _ H5.out.2.1).mono ?_
        rintro e w6 ⟨rfl, hb6⟩
        have H6 := Lib.hid (H5.out.below hb6)
        have HB6 := Lib.hid (HB.out.trans (hb6.mono HB.out.size))
        clear hb6
        go_wp2_with fail
        refine (c3 _ H6.out.2.2).mono ?_
        rintro e w7 ⟨rfl, hb7⟩
        have HB7 := Lib.hid (HB6.out.trans (hb7.mono HB6.out.size))
        clear hb7
        go_wp2
        go_ret
        exact ⟨rfl, HB7.out⟩

def markB (x : Int) : Bool := ofI x == 0
def wideB (x : Int) : Bool := ofI x == 2

set_option maxHeartbeats 1000000 in
theorem mark_any (x : Int) (w : World) (hT : Tabs w) :
    Calls Tryd.prog 14 #[.int .i32 x] w fun e w' => e = .returned (.bool (markB x)) ∧ Below w.heap.size w w' := by
  have H := Lib.hid hT
  clear hT
  unfold markB
  go_enter Tryd.func14, Tryd.ntmps14
  go_wp2_with fail
  refine (of_any x _ H.out).mono ?_
  rintro e w5 ⟨rfl, hb5⟩
  go_wp2
  go_ret
  exact ⟨rfl, hb5⟩

set_option maxHeartbeats 1000000 in
theorem wide_any (x : Int) (w : World) (hT : Tabs w) :
    Calls Tryd.prog 15 #[.int .i32 x] w fun e w' => e = .returned (.bool (wideB x)) ∧ Below w.heap.size w w' := by
  have H := Lib.hid hT
  clear hT
  unfold wideB
  go_enter Tryd.func15, Tryd.ntmps15
  go_wp2_with fail
  refine (of_any x _ H.out).mono ?_
  rintro e w5 ⟨rfl, hb5⟩
  go_wp2
  go_ret
  exact ⟨rfl, hb5⟩

set_option maxHeartbeats 1000000 in
theorem columns_any (x : Int) (w : World) (hT : Tabs w) :
    Calls Tryd.prog 17 #[.int .i32 x] w fun e w' => e = .returned (.int .i64 (colI x)) ∧ Below w.heap.size w w' := by
  have H := Lib.hid hT
  clear hT
  have HC := Lib.hid (show (ofI x < 0 → colI x = 0) ∧ (¬ ofI x < 0 → colI x = ofI x) from ⟨fun h => if_pos h, fun h => if_neg h⟩)
  have hb := ofI_bd x
  generalize colI x = c at *
  go_enter Tryd.func17, Tryd.ntmps17
  go_wp2_with fail
  refine (of_any x _ H.out).mono ?_
  rintro e w5 ⟨rfl, hb5⟩
  have HB := Lib.hid hb5
  clear hb5
  generalize ofI x = q at *
  by_cases hq : q < 0
  · go_wp2
    go_ret
    exact ⟨by rw [HC.out.1 hq]; rfl, HB.out⟩
  · go_wp2
    go_ret
    exact ⟨by rw [HC.out.2 hq]; rfl, HB.out⟩
end Go.Proofs.YtegkoncpoghbfaaDoor.Lab
