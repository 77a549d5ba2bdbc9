/- label.Join of levels. -/
import Derived.Test.YtmfbknmcmopjnaaTbBase
namespace Go.Proofs.Ytmfbknmcmopjnaa.Lab
open Go Go.RowKit

theorem isLow_any (n : Int) (w : World) : Calls Try.prog 56 #[.int .u8 n] w fun e w' => e = .returned (.bool (n == 0)) ∧ w = w' := by
  go_enter Try.func56, Try.ntmps56
  go_wp2
  go_ret
  exact ⟨rfl, rfl⟩
theorem join1_any (n : Int) (w : World) : Calls Try.prog 55 #[.int .u8 n] w fun e w' => e = .returned (.bool (!(n == 0))) ∧ w = w' := by
  go_enter Try.func55, Try.ntmps55
  go_wp2_with fail
  refine (isLow_any _ _).mono ?_
  rintro e w' ⟨rfl, rfl⟩
  go_wp2
  go_ret
  exact ⟨rfl, rfl⟩
/-- A row of levels. -/
def LevsAt (w : World) (a : Option Addr) (len : Nat) (xs : List Int) : Prop :=
  xs.length = len ∧ len ≤ 1000 ∧ (0 < len → ∃ b off, a = some ⟨b, off, none⟩ ∧ ∀ i, i < len → w.cell? ⟨b, off + i, none⟩ = some (.int .u8 (xs[i]?.getD 0)))
theorem any_take1 (xs : List Int) (p : Int → Bool) (k : Nat) (h : k < xs.length) : (xs.take (k + 1)).any p = ((xs.take k).any p || p (xs[k]?.getD 0)) := by
  rw [List.take_succ_eq_append_getElem h]
  simp only [List.any_append, List.getElem?_eq_getElem h, Option.getD_some]
  simp
theorem any_more (xs : List Int) (p : Int → Bool) (k : Nat) (h : (xs.take k).any p = true) : xs.any p = true := by
  obtain ⟨x, hx, hp⟩ := List.any_eq_true.1 h
  exact List.any_eq_true.2 ⟨x, List.mem_of_mem_take hx, hp⟩
theorem bool_same {a b : Bool} (h : a = b) : Ending.returned (.bool a) = .returned (.bool b) := by rw [h]
theorem some_any (a : Option Addr) (len cap : Nat) (xs : List Int) (w : World) (hl : LevsAt w a len xs) :
    Calls Try.prog 54 #[.slice a len cap, .func (.func 55) #[] #[]] w fun e w' => e = .returned (.bool (xs.any fun n => !(n == 0))) ∧ w = w' := by
  obtain ⟨p, hp0⟩ : ∃ p : Int → Bool, p = fun n => !(n == 0) := ⟨_, rfl⟩
  have HF : Hid (∀ n w, Calls Try.prog 55 #[.int .u8 n] w fun e w' => e = .returned (.bool (p n)) ∧ w = w') := Lib.hid (fun n w => by rw [hp0]; exact join1_any n w)
  rw [← hp0]
  clear hp0
  obtain ⟨h1, h2, h3⟩ := hl
  by_cases h0 : len = 0
  · subst h0
    have hx : xs = [] := List.eq_nil_of_length_eq_zero h1
    subst hx
    go_enter Try.func54, Try.ntmps54
    go_wp2
    refine wp_loop_rounds 1 ?_
    rw [rounds_succ]
    go_wp2
    go_ret
    exact ⟨rfl, rfl⟩
  · obtain ⟨b, off, rfl, hc⟩ := h3 (by omega)
    have H1 := Lib.hid h1
    clear h1 h3
    go_enter Try.func54, Try.ntmps54
    go_wp2
    go_loop [9] (fun i => ∃ k : Nat, k ≤ len ∧ i = .int .i64 k ∧ (xs.take k).any p = false) (fun i => len - (intOf i).toNat)
    case atStart => exact ⟨0, Nat.zero_le _, rfl, rfl⟩
    case round =>
      obtain ⟨k, hk, rfl, hp⟩ := hrel
      have HP := Lib.hid hp
      clear hp
      by_cases hlt : k < len
      · have hck := hc k hlt
        go_wp2_with fail
        refine (HF.out _ _).mono ?_
        rintro e w' ⟨rfl, rfl⟩
        have hs := Lib.hid (any_take1 xs p k (by rw [H1.out]; exact hlt))
        by_cases hpk : p (xs[k]?.getD 0) = true
        · go_wp2
          go_ret
          exact ⟨bool_same (any_more xs p (k + 1) (by rw [hs.out, hpk]; simp)).symm, rfl⟩
        · have hpf : p (xs[k]?.getD 0) = false := by simpa using hpk
          go_wp2
          go_round
          case rel => exact ⟨k + 1, by omega, by go_num, by rw [hs.out, HP.out, hpf]; rfl⟩
          case measure => simp [intOf]; omega
      · go_wp2
        go_ret
        have e1 : xs.take k = xs := List.take_of_length_le (by rw [H1.out]; omega)
        have e2 := HP.out
        rw [e1] at e2
        exact ⟨bool_same e2.symm, rfl⟩
theorem joins_any (a : Option Addr) (len cap : Nat) (xs : List Int) (w : World) (hl : LevsAt w a len xs) :
    Calls Try.prog 48 #[.slice a len cap] w fun e w' => e = .returned (.int .u8 (if (xs.any fun n => !(n == 0)) = true then 1 else 0)) ∧ w = w' := by
  have HS := Lib.hid (some_any a len cap xs w hl)
  cases hx : xs.any fun n => !(n == 0)
  · rw [hx] at HS
    clear hx hl
    go_enter Try.func48, Try.ntmps48
    go_wp2_with fail
    refine HS.out.mono ?_
    rintro e w' ⟨rfl, rfl⟩
    go_wp2
    go_ret
    exact ⟨rfl, rfl⟩
  · rw [hx] at HS
    clear hx hl
    go_enter Try.func48, Try.ntmps48
    go_wp2_with fail
    refine HS.out.mono ?_
    rintro e w' ⟨rfl, rfl⟩
    go_wp2
    go_ret
    exact ⟨rfl, rfl⟩
/-- Of two levels, the greater one. -/
theorem join_two (w : World) (s : Nat) (x y : Int) (hx : x = 0 ∨ x = 1) (hy : y = 0 ∨ y = 1) (h0 : w.cell? ⟨s, 0, none⟩ = some (.int .u8 x)) (h1 : w.cell? ⟨s, 1, none⟩ = some (.int .u8 y)) :
    Calls Try.prog 48 #[.slice (some ⟨s, 0, none⟩) 2 2] w fun e w' => e = .returned (.int .u8 (max x y)) ∧ w = w' := by
  have := joins_any (some ⟨s, 0, none⟩) 2 2 [x, y] w ⟨rfl, by omega, fun _ => ⟨s, 0, rfl, fun i hi => by
    rcases (show i = 0 ∨ i = 1 by omega) with rfl | rfl
    · exact h0
    · exact h1⟩⟩
  have e : (if (([x, y] : List Int).any fun n => !(n == 0)) = true then (1 : Int) else 0) = max x y := by
    rcases hx with rfl | rfl <;> rcases hy with rfl | rfl <;> rfl
  rw [e] at this
  exact this
theorem join_none (w : World) : Calls Try.prog 48 #[.slice none 0 0] w fun e w' => e = .returned (.int .u8 0) ∧ w = w' := joins_any none 0 0 [] w ⟨rfl, by omega, fun h => absurd h (by omega)⟩

end Go.Proofs.Ytmfbknmcmopjnaa.Lab
