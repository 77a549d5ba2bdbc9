/- What width.Of answers of any rune. -/
import Derived.Test.YtlaafmjiiiaceaaDoorWiOf
namespace Go.Proofs.YtlaafmjiiiaceaaDoor.Lab
open Go.RowKit

set_option maxHeartbeats 4000000 in
theorem of_any (x : Int) (w : World) (hT : Tabs w) :
    Calls Tryd.prog 46 #[.int .i32 x] w fun e w' => e = .returned (.int .i64 (ofI x)) ∧ Below w.heap.size w w' := by
  have H := Lib.hid hT
  clear hT
  unfold ofI
  cases h1 : inB unshownT x with
  | true =>
    have c1 : ∀ w, TabAt w 0 unshownT → Calls Tryd.prog 62 #[.int .i32 x, .int .i64 4, .func (.func 63) #[] #[]] w fun e w' => e = .returned (.bool true) ∧ Below w.heap.size w w' := fun w h => by rw [← h1]; exact among1 x w h
    clear h1
    go_enter Tryd.func46, Tryd.ntmps46
    go_wp2_with fail
    refine (c1 _ H.out.1).mono ?_
    rintro e w5 ⟨rfl, hb5⟩
    go_wp2
    go_ret
    exact ⟨rfl, hb5⟩
  | false =>
    have c1 : ∀ w, TabAt w 0 unshownT → Calls Tryd.prog 62 #[.int .i32 x, .int .i64 4, .func (.func 63) #[] #[]] w fun e w' => e = .returned (.bool false) ∧ Below w.heap.size w w' := fun w h => by rw [← h1]; exact among1 x w h
    clear h1
    cases h2 : inB marksT x with
    | true =>
      have c2 : ∀ w, TabAt w 1 marksT → Calls Tryd.prog 62 #[.int .i32 x, .int .i64 32, .func (.func 64) #[] #[]] w fun e w' => e = .returned (.bool true) ∧ Below w.heap.size w w' := fun w h => by rw [← h2]; exact among2 x w h
      clear h2
      go_enter Tryd.func46, Tryd.ntmps46
      go_wp2_with fail
      refine (c1 _ H.out.1).mono ?_
      rintro e w5 ⟨rfl, hb5⟩
      have H5 := Lib.hid (H.out.below hb5)
      have HB := Lib.hid hb5
      clear hb5
      go_wp2_with fail
      refine (c2 _ H5.out.2.1).mono ?_
      rintro e w6 ⟨rfl, hb6⟩
      have HB6 := Lib.hid (HB.out.trans (hb6.mono HB.out.size))
      clear hb6
      go_wp2
      go_ret
      exact ⟨rfl, HB6.out⟩
    | false =>
      have c2 : ∀ w, TabAt w 1 marksT → Calls Tryd.prog 62 #[.int .i32 x, .int .i64 32, .func (.func 64) #[] #[]] w fun e w' => e = .returned (.bool false) ∧ Below w.heap.size w w' := fun w h => by rw [← h2]; exact among2 x w h
      clear h2
      cases h3 : inB broadT x with
      | true =>
        have c3 : ∀ w, TabAt w 2 broadT → Calls Tryd.prog 62 #[.int .i32 x, .int .i64 15, .func (.func 65) #[] #[]] w fun e w' => e = .returned (.bool true) ∧ Below w.heap.size w w' := fun w h => by rw [← h3]; exact among3 x w h
        clear h3
        go_enter Tryd.func46, Tryd.ntmps46
        go_wp2_with fail
        refine (c1 _ H.out.1).mono ?_
        rintro e w5 ⟨rfl, hb5⟩
        have H5 := Lib.hid (H.out.below hb5)
        have HB := Lib.hid hb5
        clear hb5
        go_wp2_with fail
        refine (c2 _ H5.out.2.1).mono ?_
        rintro e w6 ⟨rfl, hb6⟩
        have H6 := Lib.hid (H5.out.below hb6)
        have HB6 := Lib.hid (HB.out.trans (hb6.mono HB.out.size))
        clear hb6
        go_wp2_with fail
        refine (c3 _ H6.out.2.2).mono ?_
        rintro e w7 ⟨rfl, hb7⟩
        have HB7 := Lib.hid (HB6.out.trans (hb7.mono HB6.out.size))
        clear hb7
        go_wp2
        go_ret
        exact ⟨rfl, HB7.out⟩
      | false =>
        have c3 : ∀ w, TabAt w 2 broadT → Calls Tryd.prog 62 #[.int .i32 x, .int .i64 15, .func (.func 65) #[] #[]] w fun e w' => e = .returned (.bool false) ∧ Below w.heap.size w w' := fun w h => by rw [← h3]; exact among3 x w h
        clear h3
        go_enter Tryd.func46, Tryd.ntmps46
        go_wp2_with fail
        refine (c1 _ H.out.1).mono ?_
        rintro e w5 ⟨rfl, hb5⟩
        have H5 := Lib.hid (H.out.below hb5)
        have HB := Lib.hid hb5
        clear hb5
        go_wp2_with fail
        refine (c2 _ H5.out.2.1).mono ?_
        rintro e w6 ⟨rfl, hb6⟩
        have H6 := Lib.hid (H5.out.below hb6)
        have HB6 := Lib.hid (HB.out.trans (hb6.mono HB.out.size))
        clear hb6
        go_wp2_with fail
        refine (c3 _ H6.out.2.2).mono ?_
        rintro e w7 ⟨rfl, hb7⟩
        have HB7 := Lib.hid (HB6.out.trans (hb7.mono HB6.out.size))
        clear hb7
        go_wp2
        go_ret
        exact ⟨rfl, HB7.out⟩

end Go.Proofs.YtlaafmjiiiaceaaDoor.Lab
