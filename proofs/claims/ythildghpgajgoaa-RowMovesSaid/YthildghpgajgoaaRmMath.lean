/- RowMoves's mathematics: the runes of a row's text; rows that are drawn have letters and the mark U+0301 alone. -/
import Derived.Test.YthildghpgajgoaaRqBlind
import Derived.Lib.TrimUEq
namespace Go.Proofs.Ythildghpgajgoaa.Lab
open Go Go.RowKit

def runesC (c : Cel) : List Int := if c.k = 2 then [] else (if c.ru = 0 then 32 else c.ru) :: ((if c.m0 = 0 then [] else [c.m0]) ++ (if c.m1 = 0 then [] else [c.m1]))
def runesM (R : Cls) : List Int := R.flatMap runesC
theorem cellT_runes (c : Cel) : cellT c = (runesC c).flatMap encR := by
  unfold cellT runesC
  by_cases h : c.k = 2
  · rw [if_pos h, if_pos h]
    rfl
  · rw [if_neg h, if_neg h]
    by_cases h0 : c.m0 = 0 <;> by_cases h1 : c.m1 = 0 <;> simp [h0, h1]
theorem text_runes (R : Cls) : textM R = (runesM R).flatMap encR := by
  unfold textM runesM
  induction R with
  | nil => rfl
  | cons c t ih =>
    rw [List.flatMap_cons, List.flatMap_cons, List.flatMap_append, ih, cellT_runes]
/-- How many runes are no mark. -/
def shownN (rs : List Int) : Nat := (rs.filter fun r => r != 769).length
theorem shown_cons (r : Int) (rs : List Int) : shownN (r :: rs) = (if (r != 769) = true then 1 else 0) + shownN rs := by
  unfold shownN
  rw [List.filter_cons]
  split
  · simp; omega
  · simp
def DrawnC (c : Cel) : Prop := (c.ru = 0 ∨ (97 ≤ c.ru ∧ c.ru ≤ 122)) ∧ (c.m0 = 0 ∨ c.m0 = 769) ∧ (c.m1 = 0 ∨ c.m1 = 769)
theorem DrawnC.txt {c : Cel} (h : DrawnC c) : TxtC c := by
  obtain ⟨h0, h1, h2⟩ := h
  refine ⟨?_, ?_, ?_⟩
  · rcases h0 with h | h
    · exact .inl h
    · exact .inr (.inl (by omega))
  · rcases h1 with h | h
    · exact .inl h
    · exact .inr (.inr h)
  · rcases h2 with h | h
    · exact .inl h
    · exact .inr (.inr h)
theorem DrawnC.shows {c : Cel} (h : DrawnC c) : ∀ r ∈ runesC c, Shows r := by
  obtain ⟨h0, h1, h2⟩ := h
  intro r hr
  unfold runesC at hr
  split at hr
  · simp at hr
  · rcases List.mem_cons.1 hr with rfl | hr
    · split
      · exact .inl (by decide)
      · exact .inl (by omega)
    · rcases List.mem_append.1 hr with hr | hr
      · split at hr
        · simp at hr
        · obtain rfl : r = c.m0 := by simpa using hr
          exact .inr (by omega)
      · split at hr
        · simp at hr
        · obtain rfl : r = c.m1 := by simpa using hr
          exact .inr (by omega)
theorem DrawnC.count {c : Cel} (h : DrawnC c) : shownN (runesC c) = if c.k = 2 then 0 else 1 := by
  obtain ⟨h0, h1, h2⟩ := h
  unfold runesC
  by_cases hk : c.k = 2
  · rw [if_pos hk, if_pos hk]
    rfl
  · rw [if_neg hk, if_neg hk, shown_cons]
    have e1 : ((if c.ru = 0 then 32 else c.ru) != (769 : Int)) = true := by
      split
      · decide
      · simp; omega
    rw [if_pos e1]
    have e2 : shownN ((if c.m0 = 0 then [] else [c.m0]) ++ (if c.m1 = 0 then [] else [c.m1])) = 0 := by
      rcases h1 with h1 | h1 <;> rcases h2 with h2 | h2 <;> rw [h1, h2] <;> rfl
    rw [e2]
theorem shown_append (a b : List Int) : shownN (a ++ b) = shownN a + shownN b := by
  unfold shownN
  rw [List.filter_append, List.length_append]
/-- The cells that are no Right, of the first k. -/
def wholesTo (R : Cls) (k : Nat) : Nat := ((R.take k).filter fun c => c.k != 2).length
theorem wholes_step (R : Cls) (k : Nat) (hk : k < R.length) : wholesTo R (k + 1) = wholesTo R k + (if (gc R k).k = 2 then 0 else 1) := by
  unfold wholesTo
  rw [List.take_succ_eq_append_getElem hk, List.filter_append, List.length_append, ← gc_eq hk]
  congr 1
  by_cases h : (gc R k).k = 2
  · rw [if_pos h]; simp [h]
  · rw [if_neg h]; simp [h]
theorem wholes_le (R : Cls) (k : Nat) : wholesTo R k ≤ k := by
  unfold wholesTo
  have := List.length_filter_le (fun c : Cel => c.k != 2) (R.take k)
  rw [List.length_take] at this
  omega
theorem shown_row {R : Cls} (h : ∀ i, i < R.length → DrawnC (gc R i)) : shownN (runesM R) = wholesTo R R.length := by
  have key : ∀ k, k ≤ R.length → shownN (runesM (R.take k)) = wholesTo R k := by
    intro k
    induction k with
    | zero => intro _; rfl
    | succ k ih =>
      intro hk
      rw [wholes_step R k hk, ← ih (by omega)]
      unfold runesM
      rw [List.take_succ_eq_append_getElem hk, List.flatMap_append, shown_append, ← gc_eq hk]
      congr 1
      rw [show List.flatMap runesC [gc R k] = runesC (gc R k) by simp]
      exact (h k hk).count
  have := key R.length (Nat.le_refl _)
  rwa [List.take_length] at this
theorem shows_row {R : Cls} (h : ∀ i, i < R.length → DrawnC (gc R i)) : ∀ r ∈ runesM R, Shows r := by
  intro r hr
  obtain ⟨c, hc, hr⟩ := List.mem_flatMap.1 hr
  obtain ⟨i, hi, rfl⟩ := List.getElem_of_mem hc
  rw [← gc_eq hi] at hr
  exact (h i hi).shows r hr
theorem txt_row {R : Cls} (h : ∀ i, i < R.length → DrawnC (gc R i)) : TxtOk R := fun i hi => (h i hi).txt
/-! ### Rows that are drawn -/
theorem drawn_bare (c : Cel) : DrawnC c.bare := ⟨.inl rfl, .inl rfl, .inl rfl⟩
theorem drawn_brkC {c : Cel} (h : DrawnC c) (p i : Nat) : DrawnC (brkC p i c) := by
  unfold brkC
  split
  · exact drawn_bare c
  · exact h
theorem drawn_celD (d : Dc) (l k : Int) : DrawnC { celD d with l := l, k := k } := by
  refine ⟨.inr ?_, ?_, ?_⟩
  · show 97 ≤ ((97 + d.ru % 26 : Nat) : Int) ∧ ((97 + d.ru % 26 : Nat) : Int) ≤ 122
    omega
  · show mrk d 0 = 0 ∨ mrk d 0 = 769
    unfold mrk
    split
    · exact .inr rfl
    · exact .inl rfl
  · show mrk d 1 = 0 ∨ mrk d 1 = 769
    unfold mrk
    split
    · exact .inr rfl
    · exact .inl rfl
def AllD (R : Cls) : Prop := ∀ i, i < R.length → DrawnC (gc R i)
theorem drawn_putD {labs : List Int} {R : Cls} (h : AllD R) (d : Dc) {i : Nat} (hl : R.length = labs.length) (hi : i < labs.length) : AllD (putD labs d R i) := by
  unfold putD
  split
  · exact h
  · intro j hj
    rw [len_put] at hj
    rw [gc_put (wideAt labs d i) rfl _ (by rw [hl]; exact wide_fit hi) hj]
    split
    · exact drawn_celD d _ _
    · split
      · exact ⟨.inl rfl, .inl rfl, .inl rfl⟩
      · exact drawn_brkC (drawn_brkC (h j hj) _ _) _ _
theorem drawn_row (cols : Nat) (L : List Dc) : AllD (rowM cols L) := by
  have h0 : ∀ labs : List Int, AllD (fill0 labs) := fun labs i hi => by
    have hl : (fill0 labs).length = labs.length := by simp [fill0]
    rw [gc_fill0 (by rw [← hl]; exact hi)]
    exact ⟨.inl rfl, .inl rfl, .inl rfl⟩
  show AllD (fillM (labM cols L) L [])
  unfold fillM
  split
  · exact h0 _
  · have key : ∀ k, k ≤ (labM cols L).length → AllD (fillK (labM cols L) L [] k) := by
      intro k
      induction k with
      | zero => intro _; exact h0 _
      | succ k ih =>
        intro hk
        rw [fillK_succ]
        exact drawn_putD (ih (by omega)) _ (fillK_inv _ _ _ k (by omega)).1 (by omega)
    exact key _ (Nat.le_refl _)
/-! ### A text's runes, one by one -/
theorem dec_encR (r : Int) (hr : Shows r) (l : List UInt8) : Lib.decodeL (encR r ++ l) = (r.toNat, (encR r).length) := by
  rw [Lib.decodeL_N]
  rcases hr with hr | rfl
  · rw [encR_one hr]
    have e : ((r.toNat.toUInt8)).toNat = r.toNat := by
      simp
      omega
    show Lib.decodeN _ (r.toNat.toUInt8).toNat _ _ _ = _
    rw [e]
    unfold Lib.decodeN
    rw [if_pos (by omega)]
    rfl
  · show Lib.decodeN (([204, 129] : List UInt8) ++ l).length 204 129 _ _ = (769, 2)
    have hl : 1 < (([204, 129] : List UInt8) ++ l).length := by simp
    unfold Lib.decodeN
    rw [if_neg (by decide), if_pos ⟨by decide, hl, by decide⟩, if_pos (by decide)]
theorem next_rune {s : ByteArray} {pos : Nat} {r : Int} {rs : List Int} (h : s.data.toList.drop pos = (r :: rs).flatMap encR) (hr : Shows r) :
    pos < s.size ∧ (Utf8.decode s pos).1 = r.toNat ∧ s.data.toList.drop (pos + (Utf8.decode s pos).2) = rs.flatMap encR ∧ pos + (Utf8.decode s pos).2 ≤ s.size ∧ 1 ≤ (Utf8.decode s pos).2 := by
  rw [List.flatMap_cons] at h
  have h1 : Utf8.decode s pos = (r.toNat, (encR r).length) := by rw [← Lib.decodeL_drop, h]; exact dec_encR r hr _
  have hp : 1 ≤ (encR r).length := by unfold encR; split <;> simp
  have hlen := congrArg List.length h
  rw [List.length_drop, List.length_append, ← Lib.size_eq] at hlen
  refine ⟨by omega, by rw [h1], ?_, by rw [h1]; show pos + (encR r).length ≤ _; omega, by rw [h1]; exact hp⟩
  rw [h1]
  show s.data.toList.drop (pos + (encR r).length) = _
  rw [← List.drop_drop, h, List.drop_left]
theorem end_rune {s : ByteArray} {pos : Nat} (h : s.data.toList.drop pos = ([] : List Int).flatMap encR) : ¬ pos < s.size := by
  intro hp
  have hlen := congrArg List.length h
  rw [List.length_drop, ← Lib.size_eq] at hlen
  simp at hlen
  omega
end Go.Proofs.Ythildghpgajgoaa.Lab
