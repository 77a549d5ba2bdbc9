/- Rows that are drawn: plain mathematics: whole, their labels, what Low sees of one with other High cells. -/
import Derived.Test.YthildghpgajgoaaRoLow
import Derived.Test.YthildghpgajgoaaRoLab
namespace Go.Proofs.Ythildghpgajgoaa.Lab
open Go Go.RowKit

def fill0 (labs : List Int) : Cls := labs.map fun l => { Cel.z with l := l }
/-- The draft of a cell. -/
def pickD (labs : List Int) (L O : List Dc) (i : Nat) : Dc := if labs.getD i 0 = 1 ∧ 0 < O.length then O.getD (i % O.length) Dc.z else L.getD (i % L.length) Dc.z
def wideAt (labs : List Int) (d : Dc) (i : Nat) : Bool := d.wide && (decide (i + 1 < labs.length) && (labs.getD (i + 1) 0 == labs.getD i 0))
def putD (labs : List Int) (d : Dc) (R : Cls) (i : Nat) : Cls := if d.ru % 5 = 4 ∨ (gc R i).k = 2 then R else putM R (i : Int) { celD d with l := labs.getD i 0 } (wideAt labs d i)
def stepF (labs : List Int) (L O : List Dc) (R : Cls) (i : Nat) : Cls := putD labs (pickD labs L O i) R i
def fillK (labs : List Int) (L O : List Dc) (k : Nat) : Cls := (List.range k).foldl (stepF labs L O) (fill0 labs)
def fillM (labs : List Int) (L O : List Dc) : Cls := if L.length = 0 then fill0 labs else fillK labs L O labs.length
theorem fillK_succ (labs : List Int) (L O : List Dc) (k : Nat) : fillK labs L O (k + 1) = stepF labs L O (fillK labs L O k) k := by
  unfold fillK
  rw [List.range_succ, List.foldl_append]
  rfl
/-- What holds at each step. -/
def FInv (labs : List Int) (R : Cls) : Prop := R.length = labs.length ∧ Wh R ∧ ∀ i, i < R.length → (gc R i).l = labs.getD i 0
theorem gc_fill0 {labs : List Int} {i : Nat} (h : i < labs.length) : gc (fill0 labs) i = { Cel.z with l := labs.getD i 0 } := by
  rw [gc_eq (by simpa [fill0] using h)]
  simp [fill0, List.getD_eq_getElem?_getD, h]
theorem fill0_inv (labs : List Int) : FInv labs (fill0 labs) := by
  have hl : (fill0 labs).length = labs.length := by simp [fill0]
  refine ⟨hl, fun i hi => ?_, fun i hi => ?_⟩
  · rw [hl] at hi
    unfold UnitAt
    rw [gc_fill0 hi]
    exact ⟨fun h => absurd (show (0 : Int) = 1 from h) (by decide), fun h => absurd (show (0 : Int) = 2 from h) (by decide), show (0 : Int) ≤ 0 by decide, show (0 : Int) ≤ 2 by decide⟩
  · rw [hl] at hi
    rw [gc_fill0 hi]
theorem wide_fit {labs : List Int} {d : Dc} {i : Nat} (hi : i < labs.length) : i + (if wideAt labs d i then 2 else 1) ≤ labs.length := by
  by_cases h : wideAt labs d i = true
  · rw [if_pos h]
    simp only [wideAt, Bool.and_eq_true, decide_eq_true_eq] at h
    omega
  · rw [if_neg h]
    omega
theorem wide_lab {labs : List Int} {d : Dc} {i : Nat} (h : wideAt labs d i = true) : labs.getD (i + 1) 0 = labs.getD i 0 := by
  simp only [wideAt, Bool.and_eq_true, beq_iff_eq] at h
  exact h.2.2
theorem putD_inv {labs : List Int} {R : Cls} (h : FInv labs R) (d : Dc) {i : Nat} (hi : i < labs.length) : FInv labs (putD labs d R i) := by
  unfold putD
  split
  · exact h
  · obtain ⟨h1, h2, h3⟩ := h
    refine ⟨by rw [len_put, h1], h2.put _ _ _, fun j hj => ?_⟩
    rw [len_put] at hj
    rw [gc_put (wideAt labs d i) rfl _ (by rw [h1]; exact wide_fit hi) hj]
    split
    · rename_i e
      rw [e]
    · split
      · rename_i e
        rw [e.2, wide_lab e.1]
        rfl
      · rw [(brkC_l _ _ _).1, (brkC_l _ _ _).1]
        exact h3 j hj
theorem fillK_inv (labs : List Int) (L O : List Dc) : ∀ k, k ≤ labs.length → FInv labs (fillK labs L O k)
  | 0, _ => fill0_inv labs
  | k + 1, hk => by
    rw [fillK_succ]
    exact putD_inv (fillK_inv labs L O k (by omega)) _ (by omega)
theorem fillM_inv (labs : List Int) (L O : List Dc) : FInv labs (fillM labs L O) := by
  unfold fillM
  split
  · exact fill0_inv labs
  · exact fillK_inv labs L O _ (Nat.le_refl _)
theorem LowE.symm {R S : Cls} (h : LowE R S) : LowE S R := by
  refine ⟨h.1.symm, fun i hi => ?_⟩
  obtain ⟨h1, h2⟩ := h.2 i (by rw [h.1]; exact hi)
  exact ⟨h1.symm, fun e => (h2 (by rw [h1, e])).symm⟩
theorem LowE.trans {R S T : Cls} (h : LowE R S) (k : LowE S T) : LowE R T := by
  refine ⟨h.1.trans k.1, fun i hi => ?_⟩
  obtain ⟨h1, h2⟩ := h.2 i hi
  obtain ⟨k1, k2⟩ := k.2 i (by rw [← h.1]; exact hi)
  exact ⟨h1.trans k1, fun e => (h2 e).trans (k2 (by rw [← h1, e]))⟩
/-- What is put where all is High changes nothing that Low sees. -/
theorem putD_high {labs : List Int} {R : Cls} (h : FInv labs R) (d : Dc) {i : Nat} (hi : i < labs.length) (hh : labs.getD i 0 = 1) : LowE R (putD labs d R i) := by
  have hinv := putD_inv h d hi
  refine ⟨by rw [h.1, hinv.1], fun j hj => ⟨by rw [h.2.2 j hj, hinv.2.2 j (by rw [hinv.1, ← h.1]; exact hj)], fun e => ?_⟩⟩
  rw [h.2.2 j hj] at e
  unfold putD
  split
  · rfl
  · obtain ⟨h1, h2, h3⟩ := h
    obtain ⟨w, hw⟩ : ∃ w, w = if wideAt labs d i then 2 else 1 := ⟨_, rfl⟩
    have hfit : i + w ≤ R.length := by rw [hw, h1]; exact wide_fit hi
    have hout : j < i ∨ i + w ≤ j := by
      by_cases hwd : wideAt labs d i = true
      · rw [if_pos hwd] at hw
        have := wide_lab hwd
        by_cases e1 : j = i
        · rw [e1] at e; omega
        · by_cases e2 : j = i + 1
          · rw [e2] at e; omega
          · omega
      · rw [if_neg hwd] at hw
        by_cases e1 : j = i
        · rw [e1] at e; omega
        · omega
    refine ((put_off (wideAt labs d i) hw _ hfit hj hout).1 ?_).symm
    rintro (⟨a, b⟩ | ⟨a, b⟩)
    · have hu := ((h2 j hj).1 b).2.2.2
      rw [a, h3 i (by omega), h3 j hj] at hu
      omega
    · obtain ⟨u1, u2, _⟩ := (h2 j hj).2.1 b
      have hu := ((h2 (j - 1) (by omega)).1 u2).2.2.2
      rw [show j - 1 + 1 = j by omega, h3 j hj, h3 (j - 1) (by omega)] at hu
      by_cases hwd : wideAt labs d i = true
      · rw [if_pos hwd] at hw
        have := wide_lab hwd
        rw [show j - 1 = i + 1 by omega] at hu
        omega
      · rw [if_neg hwd] at hw
        rw [show j - 1 = i by omega] at hu
        omega
theorem fill_low (labs : List Int) (hl : ∀ i, i < labs.length → labs.getD i 0 = 0 ∨ labs.getD i 0 = 1) (L O O' : List Dc) : ∀ k, k ≤ labs.length → LowE (fillK labs L O k) (fillK labs L O' k)
  | 0, _ => LowE.refl _
  | k + 1, hk => by
    have ih := fill_low labs hl L O O' k (by omega)
    have i1 := fillK_inv labs L O k (by omega)
    have i2 := fillK_inv labs L O' k (by omega)
    rw [fillK_succ, fillK_succ]
    unfold stepF
    rcases hl k (by omega) with h0 | h1
    · have e1 : pickD labs L O k = pickD labs L O' k := by
        unfold pickD
        rw [if_neg (by rintro ⟨e, _⟩; omega), if_neg (by rintro ⟨e, _⟩; omega)]
      have hk1 : k < (fillK labs L O k).length := by rw [i1.1]; omega
      have e2 := (ih.2 k hk1).2 (by rw [i1.2.2 k hk1, h0])
      rw [e1]
      unfold putD
      rw [e2]
      split
      · exact ih
      · exact ih.put _ _ _
    · exact ((putD_high i1 _ (by omega) h1).symm.trans ih).trans (putD_high i2 _ (by omega) h1)
theorem labD_01 (L : List Dc) (i : Nat) : labD L i = 0 ∨ labD L i = 1 := by
  unfold labD
  split
  · exact .inl rfl
  · split
    · exact .inr rfl
    · exact .inl rfl
theorem labM_01 (cols : Nat) (L : List Dc) : ∀ i, i < (labM cols L).length → (labM cols L).getD i 0 = 0 ∨ (labM cols L).getD i 0 = 1 := fun i hi => by
  have hi' : i < cols % 31 := by rw [labM_len] at hi; exact hi
  have : (labM cols L).getD i 0 = labD L i := by simp [labM, List.getD_eq_getElem?_getD, hi']
  rw [this]
  exact labD_01 L i
/-- The row of a line; the one with other High cells. -/
def rowM (cols : Nat) (L : List Dc) : Cls := fillM (labM cols L) L []
def otherM (cols : Nat) (L O : List Dc) : Cls := fillM (labM cols L) L O
theorem rowM_whole (cols : Nat) (L : List Dc) : Wh (rowM cols L) ∧ Lv (rowM cols L) ∧ (rowM cols L).length = cols % 31 := by
  obtain ⟨h1, h2, h3⟩ := fillM_inv (labM cols L) L []
  refine ⟨h2, fun i hi => ?_, by rw [← labM_len cols L]; exact h1⟩
  have hi' : i < (fillM (labM cols L) L []).length := hi
  rw [show (gc (rowM cols L) i).l = (labM cols L).getD i 0 from h3 i hi']
  exact labM_01 cols L i (by rw [← h1]; exact hi')
theorem otherM_whole (cols : Nat) (L O : List Dc) : Wh (otherM cols L O) ∧ LowE (rowM cols L) (otherM cols L O) := by
  refine ⟨(fillM_inv (labM cols L) L O).2.1, ?_⟩
  unfold rowM otherM fillM
  split
  · exact LowE.refl _
  · exact fill_low _ (labM_01 cols L) L [] O _ (Nat.le_refl _)
end Go.Proofs.Ythildghpgajgoaa.Lab
