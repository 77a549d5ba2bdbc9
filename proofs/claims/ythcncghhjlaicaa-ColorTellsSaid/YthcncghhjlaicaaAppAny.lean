/- Appending a row that is there, or none, to a row of the call's own, in a region that draws. -/
import Derived.Test.YthcncghhjlaicaaTakes
import Derived.Laws.OwnMore
import Derived.Test.YthcncghhjlaicaaFlat
import Derived.Test.YthcncghhjlaicaaFormat
namespace Go.Proofs.Ythcncghhjlaicaa.Lab
open Go Go.RowKit

/-- A row of values, or none, that can be read. -/
def RowOf (w : World) (v : Value) (m : Nat) (news : List Value) : Prop := (v = .slice none 0 0 ∧ m = 0 ∧ news = []) ∨ ∃ g c, v = .slice (some ⟨g, 0, none⟩) m c ∧ g < w.heap.size ∧ ∀ j u, news[j]? = some u → w.cell? ((⟨g, 0, none⟩ : Addr).add j) = some u
theorem RowOf.below {w w' : World} {v : Value} {m : Nat} {news : List Value} {n : Nat} (h : RowOf w v m news) (hb : Below n w w') (hn : w.heap.size ≤ n) : RowOf w' v m news := by
  rcases h with h | ⟨g, c, h1, h2, h3⟩
  · exact .inl h
  · refine .inr ⟨g, c, h1, Nat.lt_of_lt_of_le h2 hb.size, fun j u hj => ?_⟩
    have e := h3 j u hj
    have hp : (⟨g, 0, none⟩ : Addr).add j = ⟨g, 0 + j, none⟩ := by unfold Addr.add; split <;> simp_all
    rw [hp] at e ⊢
    exact (hb.cell (p := ⟨g, 0 + j, none⟩) (by show g < n; omega)).trans e

theorem RowOf.own {w : World} {base : Nat} {T : TypeId} {v : Value} {m : Nat} {xs : List Value} (h : w.ownsRow base T 3 v m xs) : RowOf w v m xs := by
  rcases h.2 with ⟨rfl, rfl⟩ | ⟨g, cap, cur, rfl, hb, hg, hr⟩
  · have h0 : xs = [] := List.eq_nil_of_length_eq_zero (by simpa using h.1)
    exact .inl ⟨rfl, rfl, h0⟩
  · exact .inr ⟨g, cap, rfl, (h.lt g rfl).2, h.cells (g := g) rfl⟩

theorem grown_refl (w : World) (row : Option Nat) : w.grownBy w row := ⟨rfl, rfl, rfl, Nat.le_refl _, fun _ _ _ => rfl⟩

theorem wp_append_any {P : Program} {o : Oper} {a : Act} {w : World} {K : Act → World → Prop} {Q : Exit → Act → World → Prop}
    (s x : Operand) (t : TypeId) (hop : o.op = Op.call { callee := Callee.builtin Builtin.append, args := #[s, x], argTypes := #[t, t] })
    (base : Nat) (e : TypeId) (i : TypeInfo) (z : Value) (size bytes : Nat) (h1 : P.underlying t = some (.slice e)) (h2 : P.info? e = some i) (h3 : i.zero = some z) (h4 : i.size = size) (h5 : i.bytes = bytes) (h6 : z.cells.size = size) (h7 : 0 < size)
    (v : Value) (n : Nat) (xs : List Value) (hs : a.eval s = v) (hown : w.ownsRow base e size v n xs)
    (m : Nat) (news : List Value) (hx : RowOf w (a.eval x) m news) (hn : news.length = m * size) (h1c : ∀ u ∈ news, u.oneCell' = true)
    (b1 : n + m ≤ maxLen) (b2 : (n + m) * bytes ≤ 140737488355328) (hb : base ≤ w.heap.size)
    (hK : ∀ v' w', w'.ownsRow base e size v' (n + m) (xs ++ news) → w.grownBy w' v.ownBlock → K (a.put o.dst v') w') :
    Oper.wp P o a w K Q := by
  rcases hx with ⟨e1, rfl, rfl⟩ | ⟨g, c, e1, _, hc⟩
  · have hrun := run_append_owned_none (P := P) (w := w) base t o.type e i size h1 h2 v n xs hown
    unfold Oper.wp
    simp [execOp, hop, resolve, invoke, builtin, hs, e1, hrun, Result.andThen]
    exact hK v w (by simpa using hown) (grown_refl _ _)
  · obtain ⟨v', w', hrun, r1, r2, _⟩ := run_append_own (P := P) w base t o.type e i z size bytes h1 h2 h3 h4 h5 h6 h7 v n xs hown ⟨g, 0, none⟩ m c news hn hc h1c b1 b2 hb
    unfold Oper.wp
    simp [execOp, hop, resolve, invoke, builtin, hs, e1, hrun, Result.andThen]
    exact hK v' w' r1 r2
end Go.Proofs.Ythcncghhjlaicaa.Lab
