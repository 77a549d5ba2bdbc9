/- For RingOwn's last loop: labels are put back, cell by cell. -/
import Derived.Test.YtnefamgjlhdffaaRgLoose
set_option linter.unusedVariables false
namespace Go.Proofs.Ytnefamgjlhdffaa.Lab
open Go Go.RowKit

/-- The first c cells with their own labels, the others with label 1. -/
def bkM (R : Cls) (c : Nat) : Cls := R.take c ++ (toL 1 R).drop c
theorem bkM_len (R : Cls) (c : Nat) : (bkM R c).length = R.length := by unfold bkM; rw [List.length_append, List.length_take, List.length_drop, List.length_map]; omega
theorem bkM_zero (R : Cls) : bkM R 0 = toL 1 R := by unfold bkM; rw [List.take_zero, List.drop_zero, List.nil_append]
theorem bkM_all (R : Cls) : bkM R R.length = R := by unfold bkM; rw [List.take_length, List.drop_of_length_le (by rw [List.length_map]; exact Nat.le_refl _), List.append_nil]
theorem bkM_gc {R : Cls} {c : Nat} (h : c < R.length) : gc (bkM R c) c = { gc R c with l := 1 } := by
  rw [← gc_toL h]
  unfold bkM gc
  rw [List.getD_eq_getElem?_getD, List.getD_eq_getElem?_getD, List.getElem?_append_right (by rw [List.length_take]; omega), List.length_take, List.getElem?_drop]
  congr 2
  omega
theorem bkM_set {R : Cls} {c : Nat} (h : c < R.length) : (bkM R c).set c (gc R c) = bkM R (c + 1) := by
  have h2 : c < (toL 1 R).length := by rw [List.length_map]; exact h
  unfold bkM
  rw [List.set_append_right _ _ (by rw [List.length_take]; omega), List.length_take, show c - min c R.length = 0 by omega, List.drop_eq_getElem_cons h2, List.set_cons_zero, List.take_succ_eq_append_getElem h, gc_eq h, List.append_assoc]
  rfl
def HiC (w : World) (K : List Ln) (G : List Cls) (k c : Nat) : Prop := ∀ i, (hi : i < K.length) → CRow w 0 K[i].v (if i < k then rowG G i else if i = k then bkM (rowG G i) c else toL 1 (rowG G i))
theorem HiC.start {w : World} {K : List Ln} {G : List Cls} (h : LsOk w K) (e : rws K = G.map (toL 1)) : HiC w K G 0 0 := fun i hi => by
  have hg : i < G.length := by have := congrArg List.length e; rw [List.length_map, List.length_map] at this; omega
  have hr : K[i].R = toL 1 (rowG G i) := by
    rw [← rowG_ln hi, e]
    unfold rowG
    rw [List.getD_eq_getElem?_getD, List.getD_eq_getElem?_getD, List.getElem?_map, List.getElem?_eq_getElem hg]
    rfl
  have h1 := h K[i] (List.getElem_mem hi)
  rw [hr] at h1
  rw [if_neg (Nat.not_lt_zero _)]
  by_cases h0 : i = 0
  · rw [if_pos h0, bkM_zero]; exact h1
  · rw [if_neg h0]; exact h1
theorem HiC.next {w : World} {K : List Ln} {G : List Cls} {k c : Nat} (h : HiC w K G k c) (hc : c = (rowG G k).length) : HiC w K G (k + 1) 0 := fun i hi => by
  have h1 := h i hi
  by_cases a : i < k
  · rw [if_pos a] at h1; rw [if_pos (by omega)]; exact h1
  · by_cases b : i = k
    · rw [if_neg a, if_pos b, hc, ← b, bkM_all] at h1
      rw [if_pos (by omega)]; exact h1
    · rw [if_neg a, if_neg b] at h1
      rw [if_neg (by omega)]
      by_cases d : i = k + 1
      · rw [if_pos d, bkM_zero]; exact h1
      · rw [if_neg d]; exact h1
theorem HiC.put {w : World} {K : List Ln} {G : List Cls} {k c b j : Nat} {u : Value} (h : HiC w K G k c) (hA : Apart K) (hk : k < K.length) (hv : K[k].v.ownBlock = some b) (hR : CRow (w.setCell ⟨b, j, none⟩ u) 0 K[k].v (bkM (rowG G k) (c + 1))) : HiC (w.setCell ⟨b, j, none⟩ u) K G k (c + 1) := fun i hi => by
  have h1 := h i hi
  have hp := List.pairwise_iff_getElem.1 hA
  by_cases d : i = k
  · subst d
    rw [if_neg (Nat.lt_irrefl _), if_pos rfl]
    exact hR
  · have hne : ∀ x, K[i].v.ownBlock = some x → ¬ x = b := fun x hx e => by
      subst e
      rcases Nat.lt_or_gt_of_ne d with q | q
      · exact hp i k hi hk q x hx hv
      · exact hp k i hk hi q x hv hx
    have h2 : CRow (w.setCell ⟨b, j, none⟩ u) 0 K[i].v _ := own_buts h1 (Buts.but (S := fun j => j = b) (But.set w b j u) rfl) hne
    by_cases a : i < k
    · rw [if_pos a] at h2 ⊢; exact h2
    · rw [if_neg a, if_neg d] at h2 ⊢; exact h2
/-- At the end the rows are those of G. -/
theorem HiC.done {w : World} {v : Value} {K : List Ln} {G : List Cls} {k c : Nat} (h : HiC w K G k c) (hk : K.length ≤ k) (hl : K.length = G.length) (hd : Hds w v K) : ∃ A, LIn (fun _ => True) w v A ∧ rws A = G ∧ A.length = K.length := by
  have hm : ∀ i, (hi : i < K.length) → CRow w 0 K[i].v (rowG G i) := fun i hi => by
    have h1 := h i hi
    rwa [if_pos (by omega)] at h1
  refine ⟨List.zipWith (fun x R => ⟨x.v, R⟩) K G, ?_, ?_, ?_⟩
  · have e1 : (List.zipWith (fun (x : Ln) R => (⟨x.v, R⟩ : Ln)) K G).length = K.length := by rw [List.length_zipWith]; omega
    have e2 : vls (List.zipWith (fun (x : Ln) R => (⟨x.v, R⟩ : Ln)) K G) = vls K := by
      refine List.ext_getElem (by rw [List.length_map, List.length_map, e1]) fun i h1 h2 => ?_
      simp [vls]
    refine LIn.of_own (B := 0) (by rw [e1, e2]; exact hd) (fun x hx => ?_)
    obtain ⟨i, hi, rfl⟩ := List.getElem_of_mem hx
    rw [e1] at hi
    have h1 := (hm i hi).row
    rw [List.getElem_zipWith]
    have h2 : rowG G i = G[i]'(by omega) := by
      unfold rowG
      rw [List.getD_eq_getElem?_getD, List.getElem?_eq_getElem (by omega)]
      rfl
    rw [h2] at h1
    exact h1
  · refine List.ext_getElem (by rw [List.length_map, List.length_zipWith]; omega) fun i h1 h2 => ?_
    simp [rws]
  · rw [List.length_zipWith]; omega
end Go.Proofs.Ytnefamgjlhdffaa.Lab
