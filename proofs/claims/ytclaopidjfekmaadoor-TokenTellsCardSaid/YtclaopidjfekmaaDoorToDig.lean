/- The reference's digits: a number's digits. -/
import Derived.Test.YtclaopidjfekmaaDoorToRSame
import Derived.Test.YtclaopidjfekmaaDoorToBytes
namespace Go.Proofs.YtclaopidjfekmaaDoor.Lab
open Go Go.RowKit

theorem dec_len (u : Nat) : (Lib.decDigits u).length ≤ u + 1 := by
  induction u using Nat.strongRecOn with
  | _ u ih =>
    by_cases h10 : u < 10
    · rw [Lib.decDigits, dif_pos h10]
      simp
    · rw [Lib.decDigits, dif_neg h10, List.length_append]
      have := ih (u / 10) (by omega)
      simp
      omega
theorem size_str (l : List UInt8) : (strL l).size = l.length := by
  show l.toArray.size = _
  simp

set_option maxHeartbeats 2000000 in
set_option maxRecDepth 100000 in
theorem rdigits_any : ∀ u : Nat, u ≤ 1000000 → ∀ (x : Int) (w : World), x = (u : Int) → Calls Tryd.prog 82 #[.int .i64 x] w fun e w' => e = .returned (.string (strL (Lib.decDigits u))) ∧ Below w.heap.size w w' := by
  intro u
  induction u using Nat.strongRecOn with
  | _ u ih =>
    intro hu x w hx
    subst hx
    obtain ⟨m, hm⟩ : ∃ m, u % 10 = m := ⟨_, rfl⟩
    obtain ⟨h, hh⟩ : ∃ h, u / 10 = h := ⟨_, rfl⟩
    have hm10 : m < 10 := by omega
    have t1 : Int.tmod (u : Int) 10 = (m : Int) := by rw [← hm]; rfl
    have t2 : (u : Int) % 10 = (m : Int) := by omega
    have d1 : Int.tdiv (u : Int) 10 = (h : Int) := by rw [← hh]; rfl
    have d2 : (u : Int) / 10 = (h : Int) := by omega
    have hcv := run_convert_bytes_back (P := Tryd.prog) (w.alloc (.cells #[.int .u8 (48 + (m : Int))] 5)) 39 9 5 ⟨w.heap.size, 0, none⟩ 1 [UInt8.ofNat (48 + m)] Tryd.underlying39 Tryd.underlying5 Tryd.underlying9 (by
      intro j hj
      have hj' : j < 1 := hj
      obtain rfl : j = 0 := by omega
      have e : (((UInt8.ofNat (48 + m)).toNat : Nat) : Int) = 48 + (m : Int) := by rw [dig_char m hm10]; omega
      simp [Addr.add]
      have e2 := dig_char m hm10
      rw [UInt8.toNat_ofNat'] at e2
      omega)
    simp only [List.length_singleton] at hcv
    have IH := Lib.hid (fun (hge : 10 ≤ u) => ih h (by omega) (by omega))
    have HDG := Lib.hid (show Lib.decDigits u = if u < 10 then [UInt8.ofNat (48 + m)] else Lib.decDigits h ++ [UInt8.ofNat (48 + m)] by
      by_cases h10 : u < 10
      · rw [if_pos h10, Lib.decDigits, dif_pos h10]
        have : m = u := by omega
        rw [this]
      · rw [if_neg h10, Lib.decDigits, dif_neg h10, hm, hh])
    have hhl := dec_len h
    have hh6 : h ≤ 1000000 := by omega
    clear hm hh ih
    by_cases h10 : u < 10
    · have HV := HDG.out
      rw [if_pos h10] at HV
      have HVV := Lib.hid HV
      clear HDG HV hhl hh6
      go_enter Tryd.func82, Tryd.ntmps82
      go_wp2
      go_ret
      exact ⟨ret_str (by rw [HVV.out]; simp [bl, strL]), (Below.refl _ _).alloc (Nat.le_refl _) _⟩
    · have HV := HDG.out
      rw [if_neg h10] at HV
      have HVV := Lib.hid HV
      clear HDG HV
      go_enter Tryd.func82, Tryd.ntmps82
      go_wp2_with fail
      refine (IH.out (by omega) _ _ rfl).mono ?_
      rintro e w2 ⟨rfl, b2⟩
      obtain ⟨X, hX⟩ : ∃ X, X = strL (Lib.decDigits h) := ⟨_, rfl⟩
      rw [← hX]
      have hsX : X.size ≤ 1000001 := by rw [hX, size_str]; omega
      have HX := Lib.hid hX
      clear hX hhl
      have n1 : ¬ 9223372036854775807 < X.size + 1 := by omega
      have HB := Lib.hid (((Below.refl w.heap.size w).alloc (Nat.le_refl _) (.cells #[.int .u8 (48 + (m : Int))] 5)).trans (b2.mono (by simp)))
      clear b2
      go_wp2
      go_ret
      exact ⟨ret_str (by rw [bl_cat, HX.out, bl_str, bl_str, HVV.out]; simp [bl]), HB.out⟩
end Go.Proofs.YtclaopidjfekmaaDoor.Lab
