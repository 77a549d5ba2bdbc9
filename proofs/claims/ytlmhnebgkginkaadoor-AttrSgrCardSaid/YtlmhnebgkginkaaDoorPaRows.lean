/- Rows of numbers, and rows of such rows, that the call itself has made. -/
import Derived.Test.YtlmhnebgkginkaaDoorPaNew
import Derived.OwnWalk
import Derived.Laws.OwnMore
namespace Go.Proofs.YtlmhnebgkginkaaDoor.Lab
open Go.RowKit

abbrev intsV (r : List Int) : List Value := r.map (Value.int .i64)
/-- A row of numbers, not nil. -/
def IntsAt (w : World) (lo : Nat) (v : Value) (r : List Int) : Prop := w.ownsRow lo 3 1 v r.length (intsV r) ∧ v ≠ .slice none 0 0
/-- A row of rows of numbers; nil, or not. -/
def RowsAt (w : World) (lo : Nat) (v : Value) (R : Rws) : Prop := ∃ us : List Value, w.ownsRow lo 50 1 v R.length us ∧ ∀ i, i < R.length → IntsAt w lo (us.getD i undef) (R.getD i [])

theorem IntsAt.open {w : World} {lo : Nat} {v : Value} {r : List Int} (h : IntsAt w lo v r) : ∃ g c cur, v = .slice (some ⟨g, 0, none⟩) r.length c ∧ lo ≤ g ∧ g < w.heap.size ∧ r.length ≤ c ∧ w.heap[g]? = some (.cells cur 3 (0, 0)) ∧
    (∀ j, j < r.length → w.cell? ⟨g, j, none⟩ = some (.int .i64 (r.getD j 0))) ∧ ∀ j, w.frozen? ⟨g, j, none⟩ = false := by
  obtain ⟨h, hv⟩ := h
  rcases h.2 with ⟨rfl, _⟩ | ⟨g, cap, cur, rfl, hb, hg, hc, _, _, _⟩
  · exact absurd rfl hv
  · refine ⟨g, cap, cur, rfl, hb, (h.lt g rfl).2, hc, hg, fun j hj => ?_, fun j => ?_⟩
    · have := h.cells (g := g) rfl j (.int .i64 (r.getD j 0)) (by simp [List.getElem?_eq_getElem hj])
      rwa [Addr.add_mid, Nat.zero_add] at this
    · unfold World.frozen?
      rw [show w.heap[(⟨g, j, none⟩ : Addr).block]? = _ from hg]
      show (decide (0 ≤ j) && decide (j < 0)) = false
      simp
theorem IntsAt.kept {w w' : World} {lo : Nat} {v : Value} {r : List Int} {row : Option Nat} (h : IntsAt w lo v r) (hg : w.grownBy w' row) (hne : v.ownBlock ≠ row) : IntsAt w' lo v r := ⟨h.1.kept hg (.inr hne), h.2⟩
theorem IntsAt.but {w w' : World} {lo B : Nat} {v : Value} {r : List Int} (h : IntsAt w lo v r) (hb : But B w w') (hB : B < lo) : IntsAt w' lo v r := by
  refine h.kept hb fun e => ?_
  have := (h.1.lt B e).1
  omega
theorem IntsAt.below {w w' : World} {lo : Nat} {v : Value} {r : List Int} (h : IntsAt w lo v r) (hb : Below w.heap.size w w') : IntsAt w' lo v r := by
  obtain ⟨g, c, cur, rfl, _⟩ := h.open
  exact h.kept (row := none) ⟨hb.os, hb.tape, hb.output, hb.size, fun k hk _ => hb.block k hk⟩ (by simp [Value.ownBlock])
theorem IntsAt.lower {w : World} {lo lo' : Nat} {v : Value} {r : List Int} (h : IntsAt w lo v r) (hl : lo' ≤ lo) : IntsAt w lo' v r := by
  refine ⟨⟨h.1.1, ?_⟩, h.2⟩
  rcases h.1.2 with hn | ⟨g, cap, cur, e, hb, rest⟩
  · exact .inl hn
  · exact .inr ⟨g, cap, cur, e, Nat.le_trans hl hb, rest⟩
/-- A row of rows that grows leaves rows of numbers alone. -/
theorem IntsAt.apart {w w' : World} {lo base n : Nat} {v u : Value} {r : List Int} {xs : List Value} (h : IntsAt w lo v r) (ho : w.ownsRow base 50 1 u n xs) (hg : w.grownBy w' u.ownBlock) : IntsAt w' lo v r := by
  obtain ⟨g, c, cur, rfl, _, _, _, hc, _⟩ := h.open
  refine h.kept hg fun e => ?_
  rcases ho.2 with ⟨rfl, _⟩ | ⟨g', cap, cur', rfl, _, hg', _⟩
  · simp [Value.ownBlock] at e
  · simp [Value.ownBlock] at e
    subst e
    rw [hc] at hg'
    simp at hg'

theorem RowsAt.but {w w' : World} {lo B : Nat} {v : Value} {R : Rws} (h : RowsAt w lo v R) (hb : But B w w') (hB : B < lo) : RowsAt w' lo v R := by
  obtain ⟨us, h, hi⟩ := h
  refine ⟨us, h.kept hb ?_, fun i hl => (hi i hl).but hb hB⟩
  by_cases e : v.ownBlock = some B
  · have := (h.lt B e).1
    omega
  · exact .inr e
theorem RowsAt.below {w w' : World} {lo : Nat} {v : Value} {R : Rws} (h : RowsAt w lo v R) (hb : Below w.heap.size w w') : RowsAt w' lo v R := by
  obtain ⟨us, h, hi⟩ := h
  refine ⟨us, h.kept (row := none) ⟨hb.os, hb.tape, hb.output, hb.size, fun k hk _ => hb.block k hk⟩ ?_, fun i hl => (hi i hl).below hb⟩
  cases hv : v.ownBlock with
  | none => exact .inl rfl
  | some b => exact .inr (by simp)
theorem RowsAt.lower {w : World} {lo lo' : Nat} {v : Value} {R : Rws} (h : RowsAt w lo v R) (hl : lo' ≤ lo) : RowsAt w lo' v R := by
  obtain ⟨us, h, hi⟩ := h
  refine ⟨us, ⟨h.1, ?_⟩, fun i hi' => (hi i hi').lower hl⟩
  rcases h.2 with hn | ⟨g, cap, cur, e, hb, rest⟩
  · exact .inl hn
  · exact .inr ⟨g, cap, cur, e, Nat.le_trans hl hb, rest⟩
theorem RowsAt.nil (w : World) (lo : Nat) : RowsAt w lo (.slice none 0 0) [] := ⟨[], World.ownsRow_nil w lo _ 1, fun i hi => by simp at hi⟩
/-- Nil, or a row in a block. -/
theorem RowsAt.open {w : World} {lo : Nat} {v : Value} {R : Rws} (h : RowsAt w lo v R) : (v = .slice none 0 0 ∧ R = []) ∨ ∃ g c, v = .slice (some ⟨g, 0, none⟩) R.length c ∧ lo ≤ g ∧ g < w.heap.size ∧ R.length ≤ c ∧ (∀ j, w.frozen? ⟨g, j, none⟩ = false) ∧
    ∀ i, i < R.length → ∃ u, w.cell? ⟨g, i, none⟩ = some u ∧ IntsAt w lo u (R.getD i []) := by
  obtain ⟨us, h, hi⟩ := h
  rcases h.2 with ⟨rfl, h0⟩ | ⟨g, cap, cur, rfl, hb, hg, hc, _, _, _⟩
  · exact .inl ⟨rfl, List.length_eq_zero_iff.1 h0⟩
  · refine .inr ⟨g, cap, rfl, hb, (h.lt g rfl).2, hc, fun j => ?_, fun i hl => ⟨us.getD i undef, ?_, hi i hl⟩⟩
    · unfold World.frozen?
      rw [show w.heap[(⟨g, j, none⟩ : Addr).block]? = _ from hg]
      show (decide (0 ≤ j) && decide (j < 0)) = false
      simp
    · have hl' : i < us.length := by have := h.1; omega
      have := h.cells (g := g) rfl i (us.getD i undef) (by simp [List.getElem?_eq_getElem hl'])
      rwa [Addr.add_mid, Nat.zero_add] at this
theorem RowsAt.snoc {w w' : World} {lo : Nat} {v v' u : Value} {R : Rws} {r : List Int} {us : List Value} (h : w.ownsRow lo 50 1 v R.length us) (hi : ∀ i, i < R.length → IntsAt w lo (us.getD i undef) (R.getD i [])) (hu : IntsAt w lo u r)
    (ho : w'.ownsRow lo 50 1 v' (R.length + 1) (us ++ [u])) (hg : w.grownBy w' v.ownBlock) : RowsAt w' lo v' (R ++ [r]) := by
  have hl : us.length = R.length := by simpa using h.1
  refine ⟨us ++ [u], by simpa using ho, fun i hi' => ?_⟩
  have hi2 : i < R.length + 1 := by simpa using hi'
  by_cases e : i < R.length
  · rw [getD_snoc_lt _ _ _ (by omega), getD_snoc_lt _ _ _ e]
    exact (hi i e).apart h hg
  · obtain rfl : i = R.length := by omega
    rw [getD_snoc_eq, ← hl, getD_snoc_eq]
    exact hu.apart h hg
end Go.Proofs.YtlmhnebgkginkaaDoor.Lab
