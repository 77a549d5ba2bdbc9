/- Of what is nearest: it is in the palette, no other one is nearer, none ahead is as near; how far two values are is the same both ways, and 0 just if they are alike. -/
import Derived.Test.YthcncghhjlaicaaNear
namespace Go.Proofs.Ythcncghhjlaicaa.Lab
open Go.RowKit

abbrev at3 (ps : List V) (i : Nat) : V := ps[i]?.getD (0, 0, 0)

theorem near_min (v : V) (ps : List V) : ∀ k, 0 < k → ∃ j : Nat, j < k ∧ (near v ps k).1 = j ∧ (near v ps k).2 = farI v (at3 ps j) ∧ (∀ i, i < k → farI v (at3 ps j) ≤ farI v (at3 ps i)) ∧ ∀ i, i < j → farI v (at3 ps j) < farI v (at3 ps i) := by
  intro k
  induction k with
  | zero => intro h; omega
  | succ k ih =>
    intro _
    by_cases hk : k = 0
    · subst hk
      refine ⟨0, by omega, ?_, ?_, ?_, ?_⟩
      · simp [near]
      · simp [near]
      · intro i hi
        obtain rfl : i = 0 := by omega
        exact Int.le_refl _
      · intro i hi; omega
    · obtain ⟨j, h1, h2, h3, h4, h5⟩ := ih (by omega)
      unfold near
      by_cases hd : farI v (at3 ps k) < (near v ps k).2
      · rw [if_pos (.inr hd)]
        refine ⟨k, by omega, rfl, rfl, ?_, ?_⟩
        · intro i hi
          by_cases e : i = k
          · subst e; exact Int.le_refl _
          · have := h4 i (by omega)
            omega
        · intro i hi
          have := h4 i (by omega)
          omega
      · rw [if_neg (fun h => h.elim (fun a => by omega) hd)]
        refine ⟨j, by omega, h2, h3, ?_, h5⟩
        intro i hi
        by_cases e : i = k
        · subst e; omega
        · exact h4 i (by omega)

theorem sqd_comm (a d : Nat) : sqd a d = sqd d a := by
  unfold sqd
  rw [← Int.neg_mul_neg, Int.neg_sub]

theorem far_comm (v u : V) : farI v u = farI u v := by
  unfold farI
  rw [sqd_comm v.1, sqd_comm v.2.1, sqd_comm v.2.2]

theorem sqd_zero (a d : Nat) : sqd a d = 0 ↔ a / 257 = d / 257 := by
  unfold sqd
  rw [Int.mul_eq_zero]
  omega

theorem sqd_nn (a d : Nat) : 0 ≤ sqd a d := by
  unfold sqd
  generalize (a : Int) / 257 - (d : Int) / 257 = x
  by_cases h : 0 ≤ x
  · exact Int.mul_nonneg h h
  · have := Int.mul_nonneg (show 0 ≤ -x by omega) (show 0 ≤ -x by omega)
    rwa [Int.neg_mul_neg] at this

theorem far_nn (v u : V) : 0 ≤ farI v u := by
  have := sqd_nn v.1 u.1
  have := sqd_nn v.2.1 u.2.1
  have := sqd_nn v.2.2 u.2.2
  unfold farI
  omega

theorem far_zero (v u : V) : farI v u = 0 ↔ v.1 / 257 = u.1 / 257 ∧ v.2.1 / 257 = u.2.1 / 257 ∧ v.2.2 / 257 = u.2.2 / 257 := by
  have h1 := sqd_nn v.1 u.1
  have h2 := sqd_nn v.2.1 u.2.1
  have h3 := sqd_nn v.2.2 u.2.2
  rw [← sqd_zero v.1, ← sqd_zero v.2.1, ← sqd_zero v.2.2]
  unfold farI
  omega

/-- What is nearest to a value of the palette is as near as can be. -/
theorem near_own (ps : List V) (n i : Nat) (hi : i < n) : ∃ j : Nat, j < n ∧ (near (at3 ps i) ps n).1 = j ∧ farI (at3 ps i) (at3 ps j) = 0 := by
  obtain ⟨j, h1, h2, _, h4, _⟩ := near_min (at3 ps i) ps n (by omega)
  refine ⟨j, h1, h2, ?_⟩
  have := h4 i hi
  rw [(far_zero _ _).2 ⟨rfl, rfl, rfl⟩] at this
  have := far_nn (at3 ps i) (at3 ps j)
  omega
end Go.Proofs.Ythcncghhjlaicaa.Lab
