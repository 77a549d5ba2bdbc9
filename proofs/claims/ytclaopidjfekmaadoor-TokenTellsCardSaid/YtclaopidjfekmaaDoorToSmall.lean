/- The small functions of package token. -/
import Derived.Test.YtclaopidjfekmaaDoorToMem
import Derived.Test.YtclaopidjfekmaaDoorShelf
import Derived.Laws.IdiomStrings
namespace Go.Proofs.YtclaopidjfekmaaDoor.Lab
open Go.RowKit

theorem valid_rune (r : Int) : Lib.validRune r = Utf8.valid r := by
  unfold Lib.validRune Utf8.valid
  rw [Bool.eq_iff_iff]
  simp
  omega
set_option maxHeartbeats 1000000 in
theorem is_any (r : Int) (w : World) : Calls Tryd.prog 59 #[.int .i32 r] w fun e w' => e = .returned (.bool (Utf8.valid r)) ∧ w = w' := by
  have HV := Lib.hid (valid_rune r)
  go_enter Tryd.func59, Tryd.ntmps59
  go_wp2_with fail
  refine (Tryd.utf8_ValidRune r _).mono ?_
  rintro e w' ⟨rfl, rfl⟩
  rw [HV.out]
  go_wp2
  go_ret
  exact ⟨rfl, rfl⟩
set_option maxHeartbeats 1000000 in
theorem printed_any (r : Int) (w : World) : Calls Tryd.prog 40 #[.int .i32 r] w fun e w' => e = .returned (.bool (prnB r)) ∧ w = w' := by
  have HB := Lib.hid (show prnB r = (Utf8.valid r && decide (32 ≤ r) && !btw 127 159 r) from rfl)
  obtain ⟨q, hq⟩ : ∃ q, Utf8.valid r = q := ⟨_, rfl⟩
  obtain ⟨p, hp⟩ : ∃ p, btw 127 159 r = p := ⟨_, rfl⟩
  have HQ := Lib.hid hq
  have HP := Lib.hid hp
  clear hq hp
  cases q
  · go_enter Tryd.func40, Tryd.ntmps40
    go_wp2_with fail
    refine (is_any r _).mono ?_
    rintro e w' ⟨rfl, rfl⟩
    rw [HQ.out]
    go_wp2
    go_ret
    exact ⟨by rw [HB.out, HQ.out]; simp, rfl⟩
  · by_cases h : 32 ≤ r
    · go_enter Tryd.func40, Tryd.ntmps40
      go_wp2_with fail
      refine (is_any r _).mono ?_
      rintro e w' ⟨rfl, rfl⟩
      rw [HQ.out]
      go_wp2_with fail
      refine (within_i32 r 127 159 _).mono ?_
      rintro e w' ⟨rfl, rfl⟩
      rw [HP.out]
      go_wp2
      go_ret
      exact ⟨by rw [HB.out, HQ.out, HP.out]; simp [h], rfl⟩
    · go_enter Tryd.func40, Tryd.ntmps40
      go_wp2_with fail
      refine (is_any r _).mono ?_
      rintro e w' ⟨rfl, rfl⟩
      rw [HQ.out]
      go_wp2
      go_ret
      exact ⟨by rw [HB.out, HQ.out, show decide (32 ≤ r) = false by simpa using h]; rfl, rfl⟩
set_option maxHeartbeats 1000000 in
theorem control_any (c : Int) (w : World) : Calls Tryd.prog 42 #[.int .u8 c] w fun e w' => e = .returned (.bool (ctlB c)) ∧ w = w' := by
  have HB := Lib.hid (show ctlB c = (decide (c < 32) && (!(c == 24)) && (!(c == 26)) && (!(c == 27))) by simp [ctlB, Bool.and_assoc]; try rfl)
  by_cases h1 : c < 32
  · by_cases h2 : c = 24
    · subst h2
      go_enter Tryd.func42, Tryd.ntmps42
      go_wp2
      go_ret
      exact ⟨by rw [HB.out]; rfl, rfl⟩
    · by_cases h3 : c = 26
      · subst h3
        go_enter Tryd.func42, Tryd.ntmps42
        go_wp2
        go_ret
        exact ⟨by rw [HB.out]; rfl, rfl⟩
      · have e2 : (c == 24) = false := by simpa using h2
        have e2' : (c != 24) = true := by simpa using h2
        have e3 : (c == 26) = false := by simpa using h3
        have e3' : (c != 26) = true := by simpa using h3
        go_enter Tryd.func42, Tryd.ntmps42
        go_wp2
        go_ret
        exact ⟨by rw [HB.out]; simp [h1, e2, e3]; try rfl, rfl⟩
  · go_enter Tryd.func42, Tryd.ntmps42
    go_wp2
    go_ret
    exact ⟨by rw [HB.out, show decide (c < 32) = false by simpa using h1]; rfl, rfl⟩
set_option maxHeartbeats 1000000 in
theorem letter_any (c : Int) (h0 : 0 ≤ c) (h1 : c ≤ 255) (w : World) : Calls Tryd.prog 54 #[.int .u8 c] w fun e w' => e = .returned (.string ⟨(oneL c).toArray⟩) ∧ Below w.heap.size w w' := by
  obtain ⟨u, eu, hu⟩ := oneL_nat h0 h1
  rw [eu]
  have hc : c = ((u.toNat : Nat) : Int) := hu.symm
  subst hc
  have hcv := run_convert_bytes_back (P := Tryd.prog) (w.alloc (.cells #[.int .u8 ((u.toNat : Nat) : Int)] 5)) 39 9 5 ⟨w.heap.size, 0, none⟩ 1 [u] Tryd.underlying39 Tryd.underlying5 Tryd.underlying9 (by
    intro j hj
    have hj' : j < 1 := hj
    obtain rfl : j = 0 := by omega
    simp [Addr.add])
  simp only [List.length_singleton] at hcv
  clear eu
  go_enter Tryd.func54, Tryd.ntmps54
  go_wp2
  go_ret
  exact ⟨rfl, (Below.refl _ _).alloc (Nat.le_refl _) _⟩
end Go.Proofs.YtclaopidjfekmaaDoor.Lab
