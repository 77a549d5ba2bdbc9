/- Rows of rows of numbers that the call makes, one of which grows: no two lie in one block. -/
import Derived.Test.YtlmhnebgkginkaaDoorAtForm
import Derived.Test.YtlmhnebgkginkaaDoorApp
namespace Go.Proofs.YtlmhnebgkginkaaDoor.Lab
open Go Go.RowKit

def RowsD (w : World) (lo : Nat) (v : Value) (R : Rws) : Prop := ∃ us : List Value, w.ownsRow lo 50 1 v R.length us ∧ (∀ i, i < R.length → IntsAt w lo (us.getD i undef) (R.getD i [])) ∧
  ∀ i j, i < R.length → j < R.length → i ≠ j → (us.getD i undef).ownBlock ≠ (us.getD j undef).ownBlock
theorem RowsD.rows {w : World} {lo : Nat} {v : Value} {R : Rws} (h : RowsD w lo v R) : RowsAt w lo v R := by
  obtain ⟨us, h1, h2, _⟩ := h
  exact ⟨us, h1, h2⟩
theorem RowsD.nil (w : World) (lo : Nat) : RowsD w lo (.slice none 0 0) [] := ⟨[], World.ownsRow_nil w lo _ 1, fun i hi => by simp at hi, fun i j hi => by simp at hi⟩
theorem RowsD.below {w w' : World} {lo : Nat} {v : Value} {R : Rws} (h : RowsD w lo v R) (hb : Below w.heap.size w w') : RowsD w' lo v R := by
  obtain ⟨us, h1, h2, h3⟩ := h
  exact ⟨us, own_below h1 hb, fun i hi => (h2 i hi).below hb, h3⟩
theorem RowsD.shape {w : World} {lo : Nat} {v : Value} {R : Rws} (h : RowsD w lo v R) : ∃ a c, v = .slice a R.length c := by
  obtain ⟨us, h1, _⟩ := h
  rcases h1.2 with ⟨rfl, h0⟩ | ⟨g, cap, cur, rfl, _⟩
  · exact ⟨none, 0, by rw [h0]⟩
  · exact ⟨_, cap, rfl⟩
/-- A new row behind the others; its block is new. -/
theorem RowsD.snoc {w w' : World} {lo : Nat} {v v' u : Value} {R : Rws} {r : List Int} {us : List Value} (h : w.ownsRow lo 50 1 v R.length us) (hi : ∀ i, i < R.length → IntsAt w lo (us.getD i undef) (R.getD i []))
    (hd : ∀ i j, i < R.length → j < R.length → i ≠ j → (us.getD i undef).ownBlock ≠ (us.getD j undef).ownBlock) (hu : IntsAt w lo u r) (hn : ∀ i, i < R.length → (us.getD i undef).ownBlock ≠ u.ownBlock)
    (ho : w'.ownsRow lo 50 1 v' (R.length + 1) (us ++ [u])) (hg : w.grownBy w' v.ownBlock) : RowsD w' lo v' (R ++ [r]) := by
  have hl : us.length = R.length := by simpa using h.1
  refine ⟨us ++ [u], by simpa using ho, fun i hi' => ?_, fun i j hi' hj' hne => ?_⟩
  · have hi2 : i < R.length + 1 := by simpa using hi'
    by_cases e : i < R.length
    · rw [getD_snoc_lt _ _ _ (by omega), getD_snoc_lt _ _ _ e]
      exact (hi i e).apart h hg
    · obtain rfl : i = R.length := by omega
      rw [getD_snoc_eq, ← hl, getD_snoc_eq]
      exact hu.apart h hg
  · have hi2 : i < R.length + 1 := by simpa using hi'
    have hj2 : j < R.length + 1 := by simpa using hj'
    by_cases e : i < R.length
    · rw [getD_snoc_lt _ _ _ (by omega)]
      by_cases e' : j < R.length
      · rw [getD_snoc_lt _ _ _ (by omega)]
        exact hd i j e e' hne
      · obtain rfl : j = R.length := by omega
        rw [← hl, getD_snoc_eq]
        exact hn i e
    · obtain rfl : i = R.length := by omega
      have e' : j < R.length := by omega
      rw [← hl, getD_snoc_eq, getD_snoc_lt _ _ _ (by omega)]
      exact (hn j e').symm
/-- The last row has grown, and is stored where it was. -/
theorem RowsD.grow {w w2 : World} {lo g c m : Nat} {u v' : Value} {D : Rws} {r r' : List Int} {us : List Value} (hm : m = D.length + 1) (h : w.ownsRow lo 50 1 (.slice (some ⟨g, 0, none⟩) m c) m us) (hi : ∀ i, i < D.length + 1 → IntsAt w lo (us.getD i undef) ((D ++ [r]).getD i []))
    (hd : ∀ i j, i < D.length + 1 → j < D.length + 1 → i ≠ j → (us.getD i undef).ownBlock ≠ (us.getD j undef).ownBlock) (hlast : us.getD D.length undef = u)
    (hg : w.grownBy w2 u.ownBlock) (hnew : IntsAt w2 lo v' r') (hw : v'.ownBlock = u.ownBlock ∨ v'.ownBlock = some w.heap.size) :
    RowsD (w2.setCell ⟨g, D.length, none⟩ v') lo (.slice (some ⟨g, 0, none⟩) m c) (D ++ [r']) := by
  subst hm
  have hl : us.length = D.length + 1 := by simpa using h.1
  have hu : IntsAt w lo u r := by
    have := hi D.length (by omega)
    rwa [hlast, getD_snoc_eq] at this
  obtain ⟨gu, cu, curu, rfl, _, _, _, hgu, _⟩ := hu.open
  have hgg : g ≠ gu := by
    rcases h.2 with ⟨e, _⟩ | ⟨g', cap, cur, e, _, hc, _⟩
    · simp at e
    · rintro rfl
      simp at e
      obtain ⟨rfl, rfl⟩ := e
      rw [hgu] at hc
      simp at hc
  have h2 : w2.ownsRow lo 50 1 (.slice (some ⟨g, 0, none⟩) (D.length + 1) c) (D.length + 1) us := h.kept hg (.inr (by simp [Value.ownBlock]; exact hgg))
  have h3 := h2.stored D.length v'
  have hset : ∀ (x : Value) (q : List Int), IntsAt w2 lo x q → IntsAt (w2.setCell ⟨g, D.length, none⟩ v') lo x q := fun x q hx => by
    obtain ⟨gx, cx, curx, rfl, _, _, _, hgx, _⟩ := hx.open
    refine hx.kept (row := some g) (But.set w2 g D.length v') ?_
    intro e
    have e' : gx = g := by simpa [Value.ownBlock] using e
    subst e'
    rcases h2.2 with ⟨e, _⟩ | ⟨g', cap, cur, e, _, hc, _⟩
    · simp at e
    · simp at e
      obtain ⟨rfl, rfl⟩ := e
      rw [hgx] at hc
      simp at hc
  have hgs : ∀ i, i < D.length → (us.set D.length v').getD i undef = us.getD i undef := fun i hi' => by
    simp [List.getD_eq_getElem?_getD, show ¬ D.length = i by omega]
  have hge : (us.set D.length v').getD D.length undef = v' := by
    simp [List.getD_eq_getElem?_getD, hl]
  refine ⟨us.set D.length v', ?_, fun i hi' => ?_, fun i j hi' hj' hne => ?_⟩
  · rw [List.length_append, List.length_singleton]
    exact h3.1
  · have hi2 : i < D.length + 1 := by simpa using hi'
    by_cases e : i < D.length
    · rw [hgs i e, getD_snoc_lt _ _ _ e]
      have k := hi i (by omega)
      rw [getD_snoc_lt _ _ _ e] at k
      refine hset _ _ (k.kept hg ?_)
      have := hd i D.length (by omega) (by omega) (by omega)
      rwa [hlast] at this
    · obtain rfl : i = D.length := by omega
      rw [hge, getD_snoc_eq]
      exact hset _ _ hnew
  · have hi2 : i < D.length + 1 := by simpa using hi'
    have hj2 : j < D.length + 1 := by simpa using hj'
    have key : ∀ k, k < D.length → (us.getD k undef).ownBlock ≠ v'.ownBlock := fun k hk => by
      rcases hw with e | e
      · rw [e]
        have := hd k D.length (by omega) (by omega) (by omega)
        rwa [hlast] at this
      · rw [e]
        intro e2
        have := ((hi k (by omega)).1.lt _ e2).2
        omega
    by_cases e : i < D.length
    · rw [hgs i e]
      by_cases e' : j < D.length
      · rw [hgs j e']
        exact hd i j (by omega) (by omega) hne
      · obtain rfl : j = D.length := by omega
        rw [hge]
        exact key i e
    · obtain rfl : i = D.length := by omega
      rw [hge, hgs j (by omega)]
      exact (key j (by omega)).symm

/-- Short numbers as they come in. -/
def S16 (w : World) (v : Value) (l : List Int) : Prop :=
  ∃ a c, v = .slice a l.length c ∧ l.length ≤ maxLen ∧ (∀ x ∈ l, -32768 ≤ x ∧ x ≤ 32767) ∧ (0 < l.length → ∃ g o, a = some ⟨g, o, none⟩ ∧ g < w.heap.size ∧ ∀ j, j < l.length → w.cell? ⟨g, o + j, none⟩ = some (.int .i16 (l.getD j 0)))
theorem S16.below {w w' : World} {v : Value} {l : List Int} (h : S16 w v l) (hb : Below w.heap.size w w') : S16 w' v l := by
  obtain ⟨a, c, e, hm, hx, h⟩ := h
  refine ⟨a, c, e, hm, hx, fun h0 => ?_⟩
  obtain ⟨g, o, ea, hg, hc⟩ := h h0
  exact ⟨g, o, ea, Nat.lt_of_lt_of_le hg hb.size, fun j hj => (hb.cell (p := ⟨g, o + j, none⟩) hg).trans (hc j hj)⟩
def okI (r : List Int) : Prop := 1 ≤ r.length ∧ r.length ≤ 8 ∧ ∀ x ∈ r, -1 ≤ x ∧ x ≤ 4000
def RowOk (R : Rws) : Prop := R.length ≤ 40 ∧ ∀ r ∈ R, okI r
theorem RowOk.i64 {R : Rws} (h : RowOk R) : RowsI R := fun r hr x hx => by
  have := (h.2 r hr).2.2 x hx
  omega
end Go.Proofs.YtlmhnebgkginkaaDoor.Lab
