/- A matrix that may be anybody's; rows of tokens with such matrices. -/
import Derived.Test.YtclaopidjfekmaaDoorToTokens
namespace Go.Proofs.YtclaopidjfekmaaDoor.Lab
open Go Go.RowKit

/-- An empty row is nil, or it has an address. -/
def ZX (w : World) (v : Value) (P : Rws) : Prop := ∀ g o n c j u, v = .slice (some ⟨g, o, none⟩) n c → j < P.length → w.cell? ⟨g, o + j, none⟩ = some u → P.getD j [] = [] → u = .slice none 0 0 ∨ ∃ ad c', u = .slice (some ad) 0 c'
def RowsB (P : Rws) : Prop := ∀ q ∈ P, q.length * 8 ≤ 140737488355328
def FMat (w : World) (S : Nat → Prop) (v : Value) (P : Rws) : Prop := MatIn w S v P ∧ ZX w v P ∧ RowsB P
theorem FMat.keep {w w' : World} {S : Nat → Prop} {v : Value} {P : Rws} (h : FMat w S v P) (k : ∀ g, S g → w'.heap[g]? = w.heap[g]?) : FMat w' S v P := by
  refine ⟨h.1.keep k, fun g o n c j u hv hj hu he => ?_, h.2.2⟩
  obtain ⟨a, c2, e, _, hc⟩ := h.1
  obtain ⟨g', o', ea, hg, _⟩ := hc (by omega)
  have e0 : Value.slice (some ⟨g, o, none⟩) n c = .slice a P.length c2 := hv.symm.trans e
  injection e0 with e1
  rw [ea] at e1
  injection e1 with e1
  injection e1 with e1 e2
  subst e1
  exact h.2.1 g o n c j u hv hj ((World.cell?_of_block (a := ⟨g, o + j, none⟩) (k g hg)).symm.trans hu) he
theorem FMat.below {w w' : World} {S : Nat → Prop} {v : Value} {P : Rws} {C : Nat} (h : FMat w S v P) (hb : Below C w w') (k : ∀ g, S g → g < C) : FMat w' S v P := h.keep fun g hg => hb.block g (k g hg)
theorem FMat.mono {w : World} {S T : Nat → Prop} {v : Value} {P : Rws} (h : FMat w S v P) (k : ∀ g, S g → T g) : FMat w T v P := ⟨h.1.mono k, h.2⟩
theorem FMat.mat {w : World} {S : Nat → Prop} {v : Value} {P : Rws} (h : FMat w S v P) : MatAt w v P := h.1.mat
theorem FMat.of_right {w : World} {S : Nat → Prop} {v : Value} {P : Rws} (h : MatIn w S v P) (hp : ∀ q ∈ P, okRow q) : FMat w S v P := by
  refine ⟨h, fun g o n c j u _ hj _ he => ?_, fun q hq => by have := (hp q hq).2.1; omega⟩
  have := (hp _ (getD_mem' (l := P) [] hj)).1
  rw [he] at this
  simp at this
theorem getD_takeK {α : Type} (l : List α) (k j : Nat) (d : α) (h : j < k) : (l.take k).getD j d = l.getD j d := by
  simp [List.getD_eq_getElem?_getD, h]
theorem MatIn.take {w : World} {S : Nat → Prop} {a : Option Addr} {n c : Nat} {P : Rws} (h : MatIn w S (.slice a n c) P) {k : Nat} (hk : k ≤ P.length) : MatIn w S (.slice a k c) (P.take k) := by
  obtain ⟨a', c', e, hm, hc⟩ := h
  injection e with e1 e2 e3
  subst e1 e3
  have hl : (P.take k).length = k := by rw [List.length_take]; omega
  refine ⟨_, _, by rw [hl], by omega, fun h0 => ?_⟩
  obtain ⟨g, o, ea, hg, hcell⟩ := hc (by omega)
  refine ⟨g, o, ea, hg, fun j hj => ?_⟩
  rw [hl] at hj
  rw [getD_takeK P k j [] hj]
  exact hcell j (by omega)
theorem FMat.take {w : World} {S : Nat → Prop} {a : Option Addr} {n c : Nat} {P : Rws} (h : FMat w S (.slice a n c) P) {k : Nat} (hk : k ≤ P.length) : FMat w S (.slice a k c) (P.take k) := by
  have hl : (P.take k).length = k := by rw [List.length_take]; omega
  refine ⟨h.1.take hk, fun g o n' c' j u hv hj hu he => ?_, fun q hq => h.2.2 q (List.mem_of_mem_take hq)⟩
  rw [hl] at hj
  rw [getD_takeK P k j [] hj] at he
  injection hv with e1 e2 e3
  exact h.2.1 g o n c j u (by rw [e1]) (by omega) hu he

/-- What the call itself has made lies in blocks of numbers and of rows. -/
theorem RRow.typed {w : World} {lo : Nat} {v : Value} {R : Rws} (h : RRow w lo v R) : MatIn w (fun g => ∃ cur e, w.heap[g]? = some (.cells cur e (0, 0)) ∧ e ≠ 27) v R := by
  obtain ⟨us, h, hi⟩ := h
  have hm := own_max h
  have hl : us.length = R.length := by simpa using h.1
  rcases h.2 with ⟨rfl, h0⟩ | ⟨g, cap, cur, rfl, _, hgg, _⟩
  · obtain rfl : R = [] := List.length_eq_zero_iff.1 h0
    exact MatIn.nil _ _
  · refine ⟨_, cap, rfl, hm, fun _ => ⟨_, _, rfl, ⟨cur, _, hgg, by decide⟩, fun j hj => ?_⟩⟩
    have hn := hi j hj
    have hc := h.cells (g := g) rfl j (us.getD j undef) (by simp [List.getElem?_eq_getElem (show j < us.length by omega)])
    rw [Addr.add_mid] at hc
    have hm2 := own_max hn
    rcases hn.2 with ⟨e, h0⟩ | ⟨g2, cap2, cur2, e, _, hgg2, _⟩
    · rw [e] at hc
      refine ⟨none, 0, by rw [h0]; exact hc, hm2, fun h1 => by omega⟩
    · rw [e] at hc hn
      refine ⟨_, cap2, hc, hm2, fun _ => ⟨_, _, rfl, ⟨cur2, _, hgg2, by decide⟩, fun l hl => ?_⟩⟩
      have := hn.cells (g := g2) rfl l (.int .i64 ((R.getD j []).getD l 0)) (ints_get hl)
      rwa [Addr.add_mid] at this

/-- A token whose matrix an own row of tokens can't touch. -/
def Fine (w : World) (lo : Nat) (p : Tok × Value) : Prop := ∃ S, FMat w S p.2 p.1.P ∧ ∀ g, S g → g < w.heap.size ∧ (g < lo ∨ ∃ cur e, w.heap[g]? = some (.cells cur e (0, 0)) ∧ e ≠ 27)
theorem Fine.below {w w' : World} {lo : Nat} {p : Tok × Value} (h : Fine w lo p) (hb : Below w.heap.size w w') : Fine w' lo p := by
  obtain ⟨S, h1, h2⟩ := h
  refine ⟨S, h1.below hb fun g hg => (h2 g hg).1, fun g hg => ⟨Nat.lt_of_lt_of_le (h2 g hg).1 hb.size, ?_⟩⟩
  rw [hb.block g (h2 g hg).1]
  exact (h2 g hg).2
theorem Fine.grow {w w' : World} {lo n : Nat} {v : Value} {xs : List Value} {p : Tok × Value} (h : Fine w lo p) (ho : w.ownsRow lo 27 7 v n xs) (hg : w.grownBy w' v.ownBlock) : Fine w' lo p := by
  obtain ⟨S, h1, h2⟩ := h
  have key : ∀ g, S g → w'.heap[g]? = w.heap[g]? := fun g hgS => by
    refine hg.block g (h2 g hgS).1 fun e => ?_
    have hlo := (ho.lt g e.symm).1
    rcases (h2 g hgS).2 with h3 | ⟨cur, e', h3, h4⟩
    · omega
    · rcases ho.2 with ⟨rfl, _⟩ | ⟨g', cap', cur', rfl, _, hg', _⟩
      · simp [Value.ownBlock] at e
      · simp [Value.ownBlock] at e
        subst e
        rw [h3] at hg'
        simp at hg'
        exact h4 hg'.2
  refine ⟨S, h1.keep key, fun g hgS => ⟨Nat.lt_of_lt_of_le (h2 g hgS).1 hg.size, ?_⟩⟩
  rw [key g hgS]
  exact (h2 g hgS).2
theorem Fine.of_own {w : World} {lo : Nat} {t : Tok} {v : Value} (h : RRow w lo v t.P) (hp : ∀ q ∈ t.P, okRow q) : Fine w lo (t, v) :=
  ⟨_, FMat.of_right h.typed hp, fun _ ⟨cur, e, h1, h2⟩ => ⟨(Array.getElem?_eq_some_iff.1 h1).1, .inr ⟨cur, e, h1, h2⟩⟩⟩
theorem Fine.mat {w : World} {lo : Nat} {p : Tok × Value} (h : Fine w lo p) : MatAt w p.2 p.1.P := h.choose_spec.1.mat
/-- A row of tokens of the call's own, the matrices anybody's. -/
def FRow (w : World) (lo : Nat) (v : Value) (L : TVs) : Prop := w.ownsRow lo 27 7 v L.length (flat7 L) ∧ ∀ p ∈ L, Fine w lo p
theorem FRow.below {w w' : World} {lo : Nat} {v : Value} {L : TVs} (h : FRow w lo v L) (hb : Below w.heap.size w w') : FRow w' lo v L := ⟨row_below h.1 hb, fun p hp => (h.2 p hp).below hb⟩
theorem FRow.toks {w : World} {lo : Nat} {v : Value} {L : TVs} (h : FRow w lo v L) : ToksAt w v (L.map Prod.fst) := toks_of h.1 fun p hp => (h.2 p hp).mat
theorem FRow.snoc {w w' : World} {lo : Nat} {v v' : Value} {L : TVs} {t : Tok} {m : Value} (h : FRow w lo v L) (hm : Fine w lo (t, m)) (ho : w'.ownsRow lo 27 7 v' (L.length + 1) (flat7 L ++ cells7 t m)) (hg : w.grownBy w' v.ownBlock) : FRow w' lo v' (L ++ [(t, m)]) := by
  refine ⟨by rw [flat7_snoc, List.length_append]; exact ho, fun p hp => ?_⟩
  rcases List.mem_append.1 hp with hp | hp
  · exact (h.2 p hp).grow h.1 hg
  · rw [List.mem_singleton.1 hp]
    exact hm.grow h.1 hg
theorem right_rows' {t : Tok} (h : Right t) : ∀ q ∈ t.P, okRow q := by
  rcases h with ⟨_, _, e, _⟩ | ⟨_, _, _, e, _⟩ | ⟨_, _, _, e, _⟩ | ⟨_, _, _, _, h, _⟩ | ⟨_, _, _, e, _⟩ | ⟨_, _, ⟨_, h, _⟩, _⟩
  · rw [e]; simp
  · rw [e]; simp
  · rw [e]; simp
  · exact h.2.1
  · rw [e]; simp
  · exact h.2.1
theorem right_rowsL {t : Tok} (h : Right t) : t.P.length ≤ 35 := by
  rcases h with ⟨_, _, e, _⟩ | ⟨_, _, _, e, _⟩ | ⟨_, _, _, e, _⟩ | ⟨_, _, _, _, h, _⟩ | ⟨_, _, _, e, _⟩ | ⟨_, _, ⟨_, h, _⟩, _⟩
  · rw [e]; simp
  · rw [e]; simp
  · rw [e]; simp
  · have := h.1; omega
  · rw [e]; simp
  · have := h.1; omega
theorem FRow.of_own {w : World} {lo : Nat} {v : Value} {L : TVs} (h : TRow w lo v L) (hr : ∀ p ∈ L, Right p.1) : FRow w lo v L := ⟨h.1, fun p hp => Fine.of_own (h.2 p hp) (right_rows' (hr p hp))⟩
theorem T7.set0 {w : World} {b : Nat} {a0 a1 a2 a3 a4 a5 a6 : Value} (h : T7 w b a0 a1 a2 a3 a4 a5 a6) (x : Value) : T7 (w.setCell ⟨b, 0, none⟩ x) b x a1 a2 a3 a4 a5 a6 := by
  obtain ⟨h0, ⟨h1, h2, h3, h4, h5, h6, h7⟩, h8⟩ := h
  refine ⟨by simpa using h0, ?_, fun i => by simp [h8 i]⟩
  refine ⟨?_, ?_, ?_, ?_, ?_, ?_, ?_⟩ <;> simp [World.cell?_setCell_other, World.cell?_setCell_same', h1, h2, h3, h4, h5, h6, h7]
end Go.Proofs.YtclaopidjfekmaaDoor.Lab
