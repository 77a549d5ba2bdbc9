/- Rows of scrolled and edited grids, one by one. -/
import Derived.Test.YtdeahnphcfcfpaaGrOpen
namespace Go.Proofs.Ytdeahnphcfcfpaa.Lab
open Go Go.RowKit

theorem rowG_append (A B : List Cls) (i : Nat) : rowG (A ++ B) i = if i < A.length then rowG A i else rowG B (i - A.length) := by
  unfold rowG
  simp only [List.getD_eq_getElem?_getD, List.getElem?_append]
  split <;> rfl
theorem rowG_take (A : List Cls) (n i : Nat) : rowG (A.take n) i = if i < n then rowG A i else [] := by
  unfold rowG
  simp only [List.getD_eq_getElem?_getD, List.getElem?_take]
  split <;> rfl
theorem rowG_drop (A : List Cls) (n i : Nat) : rowG (A.drop n) i = rowG A (n + i) := by
  unfold rowG
  simp only [List.getD_eq_getElem?_getD, List.getElem?_drop]
theorem rowG_rep (n : Nat) (e : Cls) (i : Nat) : rowG (List.replicate n e) i = if i < n then e else [] := by
  unfold rowG
  simp only [List.getD_eq_getElem?_getD, List.getElem?_replicate]
  split <;> rfl
theorem rowG_set_ne {A : List Cls} {j i : Nat} {R : Cls} (h : i ≠ j) : rowG (A.set j R) i = rowG A i := by
  unfold rowG
  simp only [List.getD_eq_getElem?_getD, List.getElem?_set_ne h.symm]
theorem rowG_up {G : List Cls} {t b q i : Nat} {e : Cls} (ht : t ≤ b) (hb : b < G.length) (hq : q ≤ b + 1 - t) (hi : i < G.length) :
    rowG (upM G t b q e) i = if i < t ∨ b < i then rowG G i else if i + q ≤ b then rowG G (i + q) else e := by
  unfold upM
  simp only [rowG_append, rowG_take, rowG_drop, rowG_rep, List.length_append, List.length_take, List.length_drop, List.length_replicate]
  by_cases h1 : i < t
  · rw [if_pos (by omega), if_pos (by omega), if_pos h1, if_pos (.inl h1)]
  by_cases h2 : b < i
  · rw [if_neg (by omega), if_pos (.inr h2)]
    congr 1
    omega
  rw [if_neg (show ¬ (i < t ∨ b < i) by omega)]
  by_cases h3 : i + q ≤ b
  · rw [if_pos (by omega), if_neg (by omega), if_pos (by omega), if_pos (by omega), if_pos h3]
    congr 1
    omega
  · rw [if_pos (by omega), if_neg (by omega), if_neg (by omega), if_pos (by omega), if_neg h3]
theorem rowG_down {G : List Cls} {t b q i : Nat} {e : Cls} (ht : t ≤ b) (hb : b < G.length) (hq : q ≤ b + 1 - t) (hi : i < G.length) :
    rowG (downM G t b q e) i = if i < t ∨ b < i then rowG G i else if i < t + q then e else rowG G (i - q) := by
  unfold downM
  simp only [rowG_append, rowG_take, rowG_drop, rowG_rep, List.length_append, List.length_take, List.length_drop, List.length_replicate]
  by_cases h1 : i < t
  · rw [if_pos (by omega), if_pos (by omega), if_pos h1, if_pos (.inl h1)]
  by_cases h2 : b < i
  · rw [if_neg (by omega), if_pos (.inr h2)]
    congr 1
    omega
  rw [if_neg (show ¬ (i < t ∨ b < i) by omega)]
  by_cases h3 : i < t + q
  · rw [if_pos (by omega), if_neg (by omega), if_pos (by omega), if_pos (by omega), if_pos h3]
  · rw [if_pos (by omega), if_neg (by omega), if_neg (by omega), if_pos (by omega), if_pos (by omega), if_neg h3]
    congr 1
    omega
/-- Scrolled up, and down by as many. -/
theorem rowG_back {G : List Cls} {t b q i : Nat} {e : Cls} (ht : t ≤ b) (hb : b < G.length) (hq : q ≤ b + 1 - t) (hi : i < G.length) :
    rowG (downM (upM G t b q e) t b q e) i = if t ≤ i ∧ i < t + q then e else rowG G i := by
  have hl := len_up ht hb hq e
  rw [rowG_down ht (by omega) hq (by omega)]
  by_cases h1 : i < t ∨ b < i
  · rw [if_pos h1, if_neg (by omega), rowG_up ht hb hq hi, if_pos h1]
  rw [if_neg h1]
  by_cases h2 : i < t + q
  · rw [if_pos h2, if_pos (by omega)]
  · rw [if_neg h2, if_neg (by omega), rowG_up ht hb hq (by omega), if_neg (by omega), if_pos (by omega)]
    congr 1
    omega
/-- What is done to a place changes no other row. -/
theorem act_other {G : List Cls} {m k i : Nat} {r cl n : Int} {x : Cel} (h : (i : Int) ≠ r) : rowG (actG m G k r cl n x) i = rowG G i := by
  have he : ∀ f : Cls → Cls, rowG (editG G m r cl f) i = rowG G i := fun f => by
    unfold editG
    split
    · rename_i hb
      rw [Bool.and_eq_true] at hb
      obtain ⟨j, rfl, _⟩ := isInB_true hb.1
      exact rowG_set_ne (by omega)
    · rfl
  have hx : ∀ f : Cls → Cls, rowG (eraseG G r f) i = rowG G i := fun f => by
    unfold eraseG
    split
    · rename_i hb
      obtain ⟨j, rfl, _⟩ := isInB_true hb
      exact rowG_set_ne (by omega)
    · rfl
  unfold actG
  split
  all_goals first | exact he _ | exact hx _
end Go.Proofs.Ytdeahnphcfcfpaa.Lab
