/- A matrix whose blocks are known to lie somewhere; one cell of it written; three operations that may come up. -/
import Derived.Test.YtclaopidjfekmaaDoorToCopy
import Derived.Test.YtclaopidjfekmaaDoorToDrafts
namespace Go.Proofs.YtclaopidjfekmaaDoor.Lab
open Go Go.RowKit

/-- A row of rows of numbers, whose blocks are of S. -/
def MatIn (w : World) (S : Nat → Prop) (v : Value) (P : Rws) : Prop :=
  ∃ a c, v = .slice a P.length c ∧ P.length ≤ maxLen ∧ (0 < P.length → ∃ g o, a = some ⟨g, o, none⟩ ∧ S g ∧ ∀ j, j < P.length → ∃ ra rc, w.cell? ⟨g, o + j, none⟩ = some (.slice ra (P.getD j []).length rc) ∧ (P.getD j []).length ≤ maxLen ∧
    (0 < (P.getD j []).length → ∃ g2 o2, ra = some ⟨g2, o2, none⟩ ∧ S g2 ∧ ∀ l, l < (P.getD j []).length → w.cell? ⟨g2, o2 + l, none⟩ = some (.int .i64 ((P.getD j []).getD l 0))))
theorem MatIn.mat {w : World} {S : Nat → Prop} {v : Value} {P : Rws} (h : MatIn w S v P) : MatAt w v P := by
  obtain ⟨a, c, e, hm, h⟩ := h
  refine ⟨a, c, e, hm, fun h0 => ?_⟩
  obtain ⟨g, o, ea, _, hc⟩ := h h0
  refine ⟨g, o, ea, fun j hj => ?_⟩
  obtain ⟨ra, rc, hcc, hm2, hr⟩ := hc j hj
  refine ⟨_, hcc, ra, rc, rfl, hm2, fun h1 => ?_⟩
  obtain ⟨g2, o2, e2, _, hl⟩ := hr h1
  exact ⟨g2, o2, e2, hl⟩
theorem MatIn.mono {w : World} {S T : Nat → Prop} {v : Value} {P : Rws} (h : MatIn w S v P) (k : ∀ g, S g → T g) : MatIn w T v P := by
  obtain ⟨a, c, e, hm, h⟩ := h
  refine ⟨a, c, e, hm, fun h0 => ?_⟩
  obtain ⟨g, o, ea, hg, hc⟩ := h h0
  refine ⟨g, o, ea, k _ hg, fun j hj => ?_⟩
  obtain ⟨ra, rc, hcc, hm2, hr⟩ := hc j hj
  refine ⟨ra, rc, hcc, hm2, fun h1 => ?_⟩
  obtain ⟨g2, o2, e2, hg2, hl⟩ := hr h1
  exact ⟨g2, o2, e2, k _ hg2, hl⟩
theorem MatIn.keep {w w' : World} {S : Nat → Prop} {v : Value} {P : Rws} (h : MatIn w S v P) (k : ∀ g, S g → w'.heap[g]? = w.heap[g]?) : MatIn w' S v P := by
  obtain ⟨a, c, e, hm, h⟩ := h
  refine ⟨a, c, e, hm, fun h0 => ?_⟩
  obtain ⟨g, o, ea, hg, hc⟩ := h h0
  refine ⟨g, o, ea, hg, fun j hj => ?_⟩
  obtain ⟨ra, rc, hcc, hm2, hr⟩ := hc j hj
  refine ⟨ra, rc, (World.cell?_of_block (k g hg)).trans hcc, hm2, fun h1 => ?_⟩
  obtain ⟨g2, o2, e2, hg2, hl⟩ := hr h1
  exact ⟨g2, o2, e2, hg2, fun l hl' => (World.cell?_of_block (k g2 hg2)).trans (hl l hl')⟩
theorem MatIn.below {w w' : World} {S : Nat → Prop} {v : Value} {P : Rws} {C : Nat} (h : MatIn w S v P) (hb : Below C w w') (k : ∀ g, S g → g < C) : MatIn w' S v P :=
  h.keep fun g hg => hb.block g (k g hg)
theorem MatIn.put {w : World} {S : Nat → Prop} {v : Value} {P : Rws} {b : Nat} {a0 a1 a2 a3 a4 a5 a6 : Value} (h : MatIn w S v P) (k : ∀ g, S g → g ≠ b) : MatIn (put7 w b a0 a1 a2 a3 a4 a5 a6) S v P :=
  h.keep fun g hg => put7_heap w b g _ _ _ _ _ _ _ (k g hg)
theorem MatIn.nil (w : World) (S : Nat → Prop) : MatIn w S (.slice none 0 0) [] := ⟨none, 0, rfl, by simp, fun h => by simp at h⟩
theorem MatIn.slice {w : World} {S : Nat → Prop} {v : Value} {P : Rws} (h : MatIn w S v P) : ∃ a c, v = .slice a P.length c := by
  obtain ⟨a, c, e, _⟩ := h
  exact ⟨a, c, e⟩
theorem ints_get {y : List Int} {l : Nat} (h : l < y.length) : (intsV y)[l]? = some (.int .i64 (y.getD l 0)) := by simp [List.getElem?_eq_getElem h]
theorem RRow.inn {w : World} {lo : Nat} {v : Value} {R : Rws} (h : RRow w lo v R) : MatIn w (fun g => (lo ≤ g ∧ g < w.heap.size) ∧ ∀ i, w.frozen? ⟨g, i, none⟩ = false) v R := by
  obtain ⟨us, h, hi⟩ := h
  have hm := own_max h
  have hl : us.length = R.length := by simpa using h.1
  have hlt : ∀ {e : TypeId} {n : Nat} {u : Value} {xs : List Value} {g : Nat}, w.ownsRow lo e 1 u n xs → u.ownBlock = some g → lo ≤ g ∧ g < w.heap.size := fun h hg => h.lt _ hg
  rcases h.2 with ⟨rfl, h0⟩ | ⟨g, cap, cur, rfl, _⟩
  · obtain rfl : R = [] := List.length_eq_zero_iff.1 h0
    exact MatIn.nil _ _
  · refine ⟨_, cap, rfl, hm, fun _ => ⟨_, _, rfl, ⟨hlt h rfl, h.frozenAt⟩, fun j hj => ?_⟩⟩
    have hn := hi j hj
    have hc := h.cells (g := g) rfl j (us.getD j undef) (by simp [List.getElem?_eq_getElem (show j < us.length by omega)])
    rw [Addr.add_mid] at hc
    have hm2 := own_max hn
    rcases hn.2 with ⟨e, h0⟩ | ⟨g2, cap2, cur2, e, _⟩
    · rw [e] at hc
      refine ⟨none, 0, by rw [h0]; exact hc, hm2, fun h1 => by omega⟩
    · rw [e] at hc hn
      refine ⟨_, cap2, hc, hm2, fun _ => ⟨_, _, rfl, ⟨hlt hn rfl, World.ownsRow.frozenAt hn⟩, fun l hl => ?_⟩⟩
      have := hn.cells (g := g2) rfl l (.int .i64 ((R.getD j []).getD l 0)) (ints_get hl)
      rwa [Addr.add_mid] at this

/-- A copy's empty rows are nil. -/
theorem MatIn.zok {w : World} {S : Nat → Prop} {va : Option Addr} {vn vc : Nat} {P : Rws} (_h : MatIn w S (.slice va vn vc) P) (hp : ∀ q ∈ P, q ≠ []) : ZOk w va P := by
  intro g o j u _ hj _ he
  exact absurd he (hp _ (getD_mem' (l := P) [] hj))

/-- One number of a matrix is written: it is a matrix of the same lengths. -/
theorem MatIn.poke {w : World} {S : Nat → Prop} {va : Option Addr} {vn vc : Nat} {P : Rws} (h : MatIn w S (.slice va vn vc) P) {i j g o rc g2 o2 : Nat} (hi : i < P.length) (ha : va = some ⟨g, o, none⟩)
    (hr : w.cell? ⟨g, o + i, none⟩ = some (.slice (some ⟨g2, o2, none⟩) (P.getD i []).length rc)) (hj : j < (P.getD i []).length) (x : Int) :
    ∃ P', MatIn (w.setCell ⟨g2, o2 + j, none⟩ (.int .i64 x)) S (.slice va vn vc) P' ∧ P'.length = P.length ∧ (∀ k, (P'.getD k []).length = (P.getD k []).length) ∧ (∀ k l, l < (P.getD k []).length → (P'.getD k []).getD l 0 = x ∨ (P'.getD k []).getD l 0 = (P.getD k []).getD l 0) ∧ (P'.getD i []).getD j 0 = x := by
  obtain ⟨a, c, e, hm, h⟩ := h
  injection e with e1 e2 e3
  subst e1 e2 e3
  obtain ⟨g', o', ea, hg, hc⟩ := h (by omega)
  rw [ha] at ea
  injection ea with ea
  injection ea with ea1 ea2 _
  subst ea1 ea2
  -- the old number at the place that is written
  have hold : w.cell? ⟨g2, o2 + j, none⟩ = some (.int .i64 ((P.getD i []).getD j 0)) := by
    obtain ⟨ra, rc', hcc, _, hrr⟩ := hc i hi
    rw [hcc] at hr
    injection hr with hr
    injection hr with hr1 _ _
    obtain ⟨g3, o3, e3, _, hl⟩ := hrr (by omega)
    rw [hr1] at e3
    injection e3 with e3
    injection e3 with e31 e32 _
    subst e31 e32
    exact hl j hj
  have hset : ∀ b q, (w.setCell ⟨g2, o2 + j, none⟩ (.int .i64 x)).cell? ⟨b, q, none⟩ = if b = g2 ∧ q = o2 + j then some (.int .i64 x) else w.cell? ⟨b, q, none⟩ := by
    intro b q
    by_cases hh : b = g2 ∧ q = o2 + j
    · rw [if_pos hh, hh.1, hh.2]
      exact World.cell?_setCell_same' _ _ _ (by rw [hold]; rfl)
    · rw [if_neg hh]
      exact World.cell?_setCell_other _ _ _ _ (fun e => hh (by injection e with e1 e2; exact ⟨e1.symm, e2.symm⟩))
  obtain ⟨ad, had⟩ : ∃ ad : Nat → Nat × Nat, ad = fun k => match w.cell? ⟨g, o + k, none⟩ with | some (.slice (some a) _ _) => (a.block, a.off) | _ => (0, 0) := ⟨_, rfl⟩
  obtain ⟨nm, hnm⟩ : ∃ nm : Nat → Nat → Int, nm = fun k l => if (ad k).1 = g2 ∧ (ad k).2 + l = o2 + j then x else (P.getD k []).getD l 0 := ⟨_, rfl⟩
  obtain ⟨P', hP'⟩ : ∃ P' : Rws, P' = (List.range P.length).map fun k => (List.range (P.getD k []).length).map fun l => nm k l := ⟨_, rfl⟩
  have hlen : P'.length = P.length := by rw [hP']; simp
  have hrow : ∀ k, k < P.length → P'.getD k [] = (List.range (P.getD k []).length).map fun l => nm k l := fun k hk => by
    rw [hP']
    simp [List.getD_eq_getElem?_getD, hk]
  have hlens : ∀ k, (P'.getD k []).length = (P.getD k []).length := fun k => by
    by_cases hk : k < P.length
    · rw [hrow k hk]
      simp
    · rw [List.getD_eq_getElem?_getD, List.getD_eq_getElem?_getD, List.getElem?_eq_none (by omega), List.getElem?_eq_none (by omega)]
  have hent : ∀ k l, k < P.length → l < (P.getD k []).length → (P'.getD k []).getD l 0 = nm k l := fun k l hk hl => by
    rw [hrow k hk]
    rw [List.getD_eq_getElem?_getD, List.getElem?_map, List.getElem?_range hl]
    rfl
  have hadi : ad i = (g2, o2) := by rw [had]; simp only [hr]
  refine ⟨P', ⟨va, vc, by rw [hlen], by omega, fun _ => ⟨g, o, ha, hg, fun k hk => ?_⟩⟩, hlen, hlens, fun k l hl => ?_, ?_⟩
  · rw [hlen] at hk
    obtain ⟨ra, rck, hcc, hm2, hrr⟩ := hc k hk
    refine ⟨ra, rck, ?_, by rw [hlens]; exact hm2, fun h1 => ?_⟩
    · rw [hset, if_neg (fun hh => ?_), hlens]
      · exact hcc
      · rw [hh.1, hh.2, hold] at hcc
        injection hcc with hcc
        injection hcc
    · rw [hlens] at h1
      obtain ⟨g3, o3, e3, hg3, hl⟩ := hrr h1
      refine ⟨g3, o3, e3, hg3, fun l hl' => ?_⟩
      rw [hlens] at hl'
      rw [hent k l hk hl', hset, hnm]
      have hadk : ad k = (g3, o3) := by rw [had]; simp only [hcc, e3]
      simp only [hadk]
      split
      · rfl
      · exact hl l hl'
  · by_cases hk : k < P.length
    · rw [hent k l hk hl, hnm]
      simp only
      split
      · exact .inl rfl
      · exact .inr rfl
    · rw [List.getD_eq_getElem?_getD, List.getElem?_eq_none (by omega)] at hl
      simp at hl
  · rw [hent i j hi hj, hnm]
    simp only [hadi, and_self, if_true]
end Go.Proofs.YtclaopidjfekmaaDoor.Lab
