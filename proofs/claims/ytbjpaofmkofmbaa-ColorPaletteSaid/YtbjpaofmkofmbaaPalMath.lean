/- The palette at first, as a list; what holds of each of its values. -/
import Derived.Test.YtbjpaofmkofmbaaFlat
import Derived.Test.YtbjpaofmkofmbaaColWorks
namespace Go.Proofs.Ytbjpaofmkofmbaa.Lab
open Go.RowKit

def palL : List V := (List.range 256).map fun i : Nat => defV (i : Int)

theorem palL_len : palL.length = 256 := by unfold palL; simp

theorem palL_at (i : Nat) (h : i < 256) : at3 palL i = defV (i : Int) := by
  unfold at3 palL
  rw [List.getElem?_map, List.getElem?_range h]
  rfl

set_option maxRecDepth 100000 in
theorem def_mod : ∀ i : Fin 256, (defV (i.val : Int)).1 % 257 = 0 ∧ (defV (i.val : Int)).2.1 % 257 = 0 ∧ (defV (i.val : Int)).2.2 % 257 = 0 ∧ (defV (i.val : Int)).1 < 65536 ∧ (defV (i.val : Int)).2.1 < 65536 ∧ (defV (i.val : Int)).2.2 < 65536 := by decide +kernel

theorem def_ok (i : Nat) (h : i < 256) : (defV (i : Int)).1 % 257 = 0 ∧ (defV (i : Int)).2.1 % 257 = 0 ∧ (defV (i : Int)).2.2 % 257 = 0 ∧ (defV (i : Int)).1 < 65536 ∧ (defV (i : Int)).2.1 < 65536 ∧ (defV (i : Int)).2.2 < 65536 := def_mod ⟨i, h⟩

theorem def_true (i : Nat) (h : i < 256) : defB (i : Int) = true := by unfold defB; rw [decide_eq_true (by omega)]

/-- Of two colours of the cube the parts rise as the steps do. -/
theorem step6_lt_iff (a b : Nat) : step6 a < step6 b ↔ a < b := by
  unfold step6
  split <;> split <;> omega

theorem cube_of_def (n : Nat) (h1 : 16 ≤ n) (h2 : n < 232) : defV (n : Int) = cubeV (n - 16) := by
  unfold defV
  rw [if_neg (by omega), if_neg (by omega), if_pos (by omega)]
  rfl

theorem cube_rise (n m : Nat) (h1 : 16 ≤ n) (h2 : n < 232) (h3 : 16 ≤ m) (h4 : m < 232) :
    ((defV (n : Int)).1 < (defV (m : Int)).1 ↔ (n - 16) / 36 < (m - 16) / 36) ∧ ((defV (n : Int)).2.1 < (defV (m : Int)).2.1 ↔ (n - 16) / 6 % 6 < (m - 16) / 6 % 6) ∧ ((defV (n : Int)).2.2 < (defV (m : Int)).2.2 ↔ (n - 16) % 6 < (m - 16) % 6) := by
  rw [cube_of_def n h1 h2, cube_of_def m h3 h4]
  unfold cubeV
  have k : ∀ x y : Nat, 257 * step6 x < 257 * step6 y ↔ x < y := by
    intro x y
    rw [← step6_lt_iff x y]
    omega
  exact ⟨k _ _, k _ _, k _ _⟩

theorem grey_of_def (n : Nat) (h1 : 232 ≤ n) (h2 : n < 256) : defV (n : Int) = greyV (n - 232) := by
  unfold defV
  rw [if_neg (by omega), if_neg (by omega), if_neg (by omega), if_pos (by omega)]
  rfl

theorem grey_rise (n m : Nat) (h1 : 232 ≤ n) (h2 : n < 256) (h3 : 232 ≤ m) (h4 : m < 256) : (defV (n : Int)).1 < (defV (m : Int)).1 ↔ n < m := by
  rw [grey_of_def n h1 h2, grey_of_def m h3 h4]
  unfold greyV
  show 257 * (8 + 10 * (n - 232)) < 257 * (8 + 10 * (m - 232)) ↔ n < m
  omega

/-- What is nearest to a colour of the palette is a colour of the same value. -/
theorem near_same (n : Nat) (h : n < 256) : ∃ j : Nat, j < 256 ∧ (near (defV (n : Int)) palL 256).1 = j ∧ at3 palL j = defV (n : Int) := by
  obtain ⟨j, j1, j2, j3⟩ := near_own palL 256 n h
  rw [palL_at n h] at j2 j3
  refine ⟨j, j1, j2, ?_⟩
  rw [palL_at j j1] at j3 ⊢
  obtain ⟨x1, x2, x3⟩ := (far_zero _ _).1 j3
  obtain ⟨a1, a2, a3, _⟩ := def_ok n h
  obtain ⟨b1, b2, b3, _⟩ := def_ok j j1
  refine Prod.ext ?_ (Prod.ext ?_ ?_)
  · omega
  · omega
  · omega
end Go.Proofs.Ytbjpaofmkofmbaa.Lab
