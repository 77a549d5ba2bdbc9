/- The helpers of the statements of package color: reads, bad, and the chapter's examples. -/
import Derived.Test.YthcncghhjlaicaaDefault
import Derived.Test.YthcncghhjlaicaaEq
namespace Go.Proofs.Ythcncghhjlaicaa.Lab
open Go.RowKit

/-- The law's helper reads: is a text read as this value? -/
theorem reads_any (s : ByteArray) (hs : s.size ≤ maxLen) (u : Nat × Nat × Nat) (w : World) :
    Calls Try.prog 24 #[.string s, valT u] w fun e w' => e = .returned (.bool (parseB s.data.toList && decide (parseV s.data.toList = u))) ∧ Below w.heap.size w w' := by
  have hq := eqVal
  cases hp : parseB s.data.toList
  · have HP := Lib.hid hp
    clear hp hq
    go_enter Try.func24, Try.ntmps24
    go_wp2_with fail
    refine (form_of rfl HP.out (parse_any s hs _)).mono ?_
    rintro e w5 ⟨rfl, hb5⟩
    go_wp2
    go_ret
    exact ⟨rfl, (bstep ((Below.refl _ _).alloc (Nat.le_refl _) _) hb5).alloc (by have := hb5.size; simp at this; omega) _⟩
  · have HP := Lib.hid hp
    clear hp
    have HE := Lib.hid (eq3_nat (parseV s.data.toList) u)
    go_enter Try.func24, Try.ntmps24
    go_wp2_with fail
    refine (form_of rfl HP.out (parse_any s hs _)).mono ?_
    rintro e w5 ⟨rfl, hb5⟩
    obtain ⟨z0, ⟨s2, s3, s4⟩, s5⟩ := V3.below (V3.newAt w w.heap.size rfl u.1 u.2.1 u.2.2 35) hb5
    clear s5
    go_wp2
    go_ret
    exact ⟨ret_bool (by rw [← HE.out]; rfl), (bstep ((Below.refl _ _).alloc (Nat.le_refl _) _) hb5).alloc (by have := hb5.size; simp at this; omega) _⟩
end Go.Proofs.Ythcncghhjlaicaa.Lab
