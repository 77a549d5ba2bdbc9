/- A palette of the call's own: a row of values that grows. -/
import Derived.Test.YthcncghhjlaicaaNearMath
import Derived.Test.YthcncghhjlaicaaColOpen
import Derived.Laws.AppendOwn
import Derived.Laws.AppendOwnNone
namespace Go.Proofs.Ythcncghhjlaicaa.Lab
open Go.RowKit

abbrev cells3 (t : V) : List Value := [.int .u16 t.1, .int .u16 t.2.1, .int .u16 t.2.2]
def flat : List V → List Value
  | [] => []
  | t :: l => cells3 t ++ flat l

theorem flat_append : ∀ a b : List V, flat (a ++ b) = flat a ++ flat b
  | [], _ => rfl
  | t :: a, b => by
    have := flat_append a b
    simp only [List.cons_append, flat, this, List.append_assoc]

theorem flat_snoc (ps : List V) (k : Nat) (h : k < ps.length) : flat (ps.take (k + 1)) = flat (ps.take k) ++ cells3 (at3 ps k) := by
  rw [List.take_succ_eq_append_getElem h, flat_append]
  unfold at3
  rw [List.getElem?_eq_getElem h]
  simp [flat]

theorem flat_at : ∀ (ps : List V) (i : Nat), i < ps.length → (flat ps)[i * 3]? = some (.int .u16 (at3 ps i).1) ∧ (flat ps)[i * 3 + 1]? = some (.int .u16 (at3 ps i).2.1) ∧ (flat ps)[i * 3 + 2]? = some (.int .u16 (at3 ps i).2.2)
  | t :: l, 0, _ => ⟨rfl, rfl, rfl⟩
  | t :: l, i + 1, h => by
    have ih := flat_at l i (by simpa using h)
    have e : at3 (t :: l) (i + 1) = at3 l i := rfl
    have s : ∀ j, (flat (t :: l))[(i + 1) * 3 + j]? = (flat l)[i * 3 + j]? := by
      intro j
      show (cells3 t ++ flat l)[(i + 1) * 3 + j]? = _
      rw [List.getElem?_append_right (by simp; omega)]
      congr 1
      simp
      omega
    rw [e]
    exact ⟨(s 0).trans ih.1, (s 1).trans ih.2.1, (s 2).trans ih.2.2⟩

theorem flat_one (t : V) : ∀ u ∈ cells3 t, u.oneCell' = true := by
  intro u hu
  simp at hu
  obtain rfl | rfl | rfl := hu <;> rfl

theorem infoV : (Try.prog.info? 35).map (fun i => (i.zero, i.size, i.bytes)) = some (some (.agg #[.int .u16 0, .int .u16 0, .int .u16 0]), 3, 6) := by kernel_rfl

/-- A row of the call's own is a palette. -/
theorem pal_of_own {w : World} {base : Nat} {T : TypeId} {v : Value} {n : Nat} {ps : List V} (hl : ps.length = n) (hm : n ≤ maxLen) (hu : ∀ i, i < n → U16 (at3 ps i)) (h : w.ownsRow base T 3 v n (flat ps)) :
    (n = 0 ∧ v = .slice none 0 0) ∨ ∃ g cap, v = .slice (some ⟨g, 0, none⟩) n cap ∧ base ≤ g ∧ PalAt w g 0 n ps := by
  rcases h.2 with ⟨rfl, rfl⟩ | ⟨g, cap, cur, rfl, hb, hg, hr⟩
  · exact .inl ⟨rfl, rfl⟩
  · refine .inr ⟨g, cap, rfl, hb, (h.lt g rfl).2, hm, hl, fun i hi => ⟨hu i hi, ?_⟩⟩
    have hc := h.cells (g := g) rfl
    have hp : ∀ j, (⟨g, 0, none⟩ : Addr).add j = ⟨g, 0 + j, none⟩ := by intro j; unfold Addr.add; split <;> simp_all
    simp only [hp] at hc
    obtain ⟨f0, f1, f2⟩ := flat_at ps i (by omega)
    exact ⟨hc _ _ f0, hc _ _ f1, hc _ _ f2⟩

theorem new3 (w : World) (t : V) (T : TypeId) (n : Nat) (hn : n = w.heap.size) : ∀ j u, (cells3 t)[j]? = some u → (w.alloc (.cells #[.int .u16 t.1, .int .u16 t.2.1, .int .u16 t.2.2] T)).cell? ((⟨n, 0, none⟩ : Addr).add j) = some u := by
  intro j u hj
  have hp : (⟨n, 0, none⟩ : Addr).add j = ⟨n, 0 + j, none⟩ := by unfold Addr.add; split <;> simp_all
  rw [hp, Nat.zero_add, World.cell?_alloc_at _ _ _ _ hn, List.getElem?_toArray]
  exact hj

theorem u16_take {w : World} {b off n : Nat} {ps : List V} (h : PalAt w b off n ps) (i : Nat) (hi : i < n) : U16 (at3 ps i) := (h.2.2.2 i hi).1
end Go.Proofs.Ythcncghhjlaicaa.Lab
