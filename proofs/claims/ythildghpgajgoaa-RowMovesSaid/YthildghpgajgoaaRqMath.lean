/- What an act makes of a whole row, as mathematics. -/
import Derived.Test.YthildghpgajgoaaRoDoes
namespace Go.Proofs.Ythildghpgajgoaa.Lab
open Go Go.RowKit

theorem eraP_eq (R : Cls) {p q : Nat} (b : Cel) : eraP R p q b = if q ≤ p then brk (brk R p) q else eraM R p q b := by
  unfold eraP
  split
  · rename_i h
    rw [show max p q - p = 0 by omega, List.replicate_zero, place_nil]
  · rename_i h
    unfold eraM place
    rw [if_neg h, List.length_replicate, show max p q = q by omega, show p + (q - p) = q by omega, List.append_assoc]
theorem Wh.eraseP {R : Cls} (h : Wh R) (i j : Int) {b : Cel} (hb : b.k = 0) : Wh (erasePM R i j b) := by
  unfold erasePM
  rw [eraP_eq R b]
  split
  · exact (h.brk _).brk _
  · exact h.era hb
theorem len_eraseP (R : Cls) (i j : Int) (b : Cel) : (erasePM R i j b).length = R.length := by
  unfold erasePM
  rw [eraP_eq R b]
  split
  · rw [len_brk, len_brk]
  · exact len_era b (inN_le _ _)
theorem Lv.eraseP {R : Cls} (h : Lv R) (i j : Int) {b : Cel} (hb : b.l = 0 ∨ b.l = 1) : Lv (erasePM R i j b) := by
  unfold erasePM
  rw [eraP_eq R b]
  split
  · exact (h.brk _).brk _
  · have := h.erase i j hb
    exact this
theorem LowE.eraseP {R S : Cls} (h : LowE R S) (i j : Int) (b : Cel) : LowE (erasePM R i j b) (erasePM S i j b) := by
  unfold erasePM
  rw [eraP_eq R b, eraP_eq S b, ← h.1]
  split
  · exact (h.brk _).brk _
  · have := h.erase i j b
    unfold eraseM at this
    rw [← h.1] at this
    exact this
theorem Wh.putP {R : Cls} (h : Wh R) (i : Int) (c : Cel) (wide : Bool) : Wh (Lab.putP R i c wide) := h.put _ c wide
theorem Lv.putP {R : Cls} (h : Lv R) (i : Int) {c : Cel} (hc : c.l = 0 ∨ c.l = 1) (wide : Bool) : Lv (Lab.putP R i c wide) := h.put _ hc wide
theorem LowE.putP {R S : Cls} (h : LowE R S) (i : Int) (c : Cel) (wide : Bool) : LowE (Lab.putP R i c wide) (Lab.putP S i c wide) := by
  unfold Lab.putP
  rw [← h.1]
  exact h.put _ c wide
theorem putP_in {R : Cls} {i : Int} (hi : 0 ≤ i) (c : Cel) (wide : Bool) : Lab.putP R i c wide = putM R i c wide := by
  unfold Lab.putP
  by_cases h : i ≤ R.length
  · rw [show ((inN i R.length : Nat) : Int) = i by unfold inN; omega]
  · rw [show ((inN i R.length : Nat) : Int) = R.length by unfold inN; omega]
    cases wide
    · rw [put_one, put_one, if_pos (by omega), if_pos (by omega)]
    · rw [put_wide, put_wide, if_pos (by omega), if_pos (by omega)]
theorem blA_k (a : Ac) : (blA a).k = 0 := rfl
theorem blA_l (a : Ac) : (blA a).l = 0 ∨ (blA a).l = 1 := celD_l a.cell
theorem does_wh {R : Cls} (h : Wh R) (a : Ac) : Wh (doesM a R) := by
  unfold doesM
  dsimp only
  split
  · exact (h.brk _).brk _
  split
  · exact h.ins (blA_k a) (in2 _ _ _)
  split
  · exact h.del (blA_k a)
  split
  · exact h.eraseP _ _ (blA_k a)
  split
  · exact h.mark _ _ _
  split
  · exact h.res (blA_k a)
  split
  · exact h.raise _
  · exact h.putP _ _ _
theorem does_lv {R : Cls} (h : Lv R) (a : Ac) : Lv (doesM a R) := by
  unfold doesM
  dsimp only
  split
  · exact (h.brk _).brk _
  split
  · exact h.insert _ _ (blA_l a)
  split
  · exact h.delete _ _ (blA_l a)
  split
  · exact h.eraseP _ _ (blA_l a)
  split
  · exact h.mark _ _ (celD_l a.cell)
  split
  · exact h.resize _ (blA_l a)
  split
  · exact h.raise (celD_l a.cell)
  · exact h.putP _ (celD_l a.cell) _
theorem does_low {R S : Cls} (h : LowE R S) (hR : Wh R) (hS : Wh S) (vR : Lv R) (a : Ac) : LowE (doesM a R) (doesM a S) := by
  unfold doesM
  dsimp only
  rw [← h.1]
  split
  · exact h.breaks _ _
  split
  · exact h.insert _ _ _
  split
  · exact h.delete _ _ _
  split
  · exact h.eraseP _ _ _
  split
  · exact h.mark hR hS vR _ _ (celD_l a.cell)
  split
  · exact h.resize _ _
  split
  · exact h.raise _ vR
  · exact h.putP _ _ _
theorem does_len {R : Cls} (a : Ac) (h : R.length ≤ 40) : (doesM a R).length ≤ 40 := by
  unfold doesM
  dsimp only
  split
  · unfold breakM
    rw [len_brk, len_brk]
    exact h
  split
  · rw [len_insert]
    exact h
  split
  · rw [len_delete]
    exact h
  split
  · rw [len_eraseP]
    exact h
  split
  · rw [len_mark]
    exact h
  split
  · unfold resizeM
    rw [len_res]
    omega
  split
  · rw [len_raise]
    exact h
  · unfold Lab.putP
    rw [len_put]
    exact h
end Go.Proofs.Ythildghpgajgoaa.Lab
