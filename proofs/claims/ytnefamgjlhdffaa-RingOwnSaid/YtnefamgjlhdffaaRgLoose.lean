/- For RingOwn: rows of one's own whose cells are changed one by one, whatever they hold. -/
import Derived.Test.YtnefamgjlhdffaaRgLast
set_option linter.unusedVariables false
namespace Go.Proofs.Ytnefamgjlhdffaa.Lab
open Go Go.RowKit

/-- Rows of these lengths, whatever their cells are. -/
def Loose (w : World) (H : List Ln) : Prop := ∀ x ∈ H, ∃ R, R.length = x.R.length ∧ CRow w 0 x.v R
theorem LsOk.loose {w : World} {H : List Ln} (h : LsOk w H) : Loose w H := fun x hx => ⟨x.R, rfl, h x hx⟩
/-- Two of them that share a block are one. -/
theorem Apart.one {H : List Ln} (h : Apart H) {x y : Ln} {b : Nat} (hx : x ∈ H) (hy : y ∈ H) (ex : x.v.ownBlock = some b) (ey : y.v.ownBlock = some b) : x = y := by
  obtain ⟨i, hi, rfl⟩ := List.getElem_of_mem hx
  obtain ⟨j, hj, rfl⟩ := List.getElem_of_mem hy
  have hp := List.pairwise_iff_getElem.1 h
  rcases Nat.lt_trichotomy i j with k | k | k
  · exact absurd ey (hp i j hi hj k b ex)
  · subst k; rfl
  · exact absurd ex (hp j i hj hi k b ey)
/-- One cell of one of them is stored. -/
theorem Loose.put {w : World} {H : List Ln} {x : Ln} {b j : Nat} {u : Value} {R : Cls} (h : Loose w H) (hA : Apart H) (hx : x ∈ H) (hv : x.v.ownBlock = some b) (hR : CRow (w.setCell ⟨b, j, none⟩ u) 0 x.v R) (hl : R.length = x.R.length) : Loose (w.setCell ⟨b, j, none⟩ u) H := fun y hy => by
  by_cases e : y.v.ownBlock = some b
  · obtain rfl := hA.one hx hy hv e
    exact ⟨R, hl, hR⟩
  · obtain ⟨S, h1, h2⟩ := h y hy
    exact ⟨S, h1, own_buts h2 (Buts.but (S := fun j => j = b) (But.set w b j u) rfl) (fun c hc hcb => e (by rw [hc]; exact congrArg some hcb))⟩
theorem Loose.buts {S : Nat → Prop} {w w' : World} {H : List Ln} (h : Loose w H) (k : Buts S w w') (d : Foot H (fun j => ¬ S j)) : Loose w' H := fun x hx => by
  obtain ⟨R, h1, h2⟩ := h x hx
  exact ⟨R, h1, own_buts h2 k (d x hx)⟩
/-- The blocks of rows. -/
def Blk (H : List Ln) (j : Nat) : Prop := ∃ y ∈ H, y.v.ownBlock = some j
/-- The headers stay, whatever is done to the rows' blocks. -/
theorem Hds.stay {w : World} {v : Value} {H : List Ln} (h : Hds w v H) (hk : LsOk w H) (h0 : 0 < H.length) : ∃ g c, v = .slice (some ⟨g, 0, none⟩) H.length c ∧ ∀ W, Buts (Blk H) w W → ∀ i, (hi : i < H.length) → W.cell? ⟨g, i, none⟩ = some (H[i]).v := by
  obtain ⟨g, c, e, _, hg, ⟨cur, hcur⟩, hC⟩ := h.get h0
  refine ⟨g, c, e, fun W kb i hi => ?_⟩
  have hn : ¬ Blk H g := fun ⟨y, hy, hb⟩ => by
    obtain ⟨cu, hu⟩ := own_type (hk y hy) hb
    exact type_ne hcur hu (by decide) rfl
  exact kb.cell (hC i hi) hn
/-- One ring of several. -/
theorem RsAt.head {w : World} {lo hi : Nat} {Z : Nat → Prop} {r : Rr} {L : List Rr} (h : RsAt w lo hi Z (r :: L)) : RsAt w lo hi Z [r] := by
  obtain ⟨X, h1, h2⟩ := h
  refine ⟨X, fun i s hs => ?_, fun i j hi hj hij => h2 i j (by simp only [List.length_cons] at hi ⊢; simp at hi; omega) (by simp only [List.length_cons] at hj ⊢; simp at hj; omega) hij⟩
  have hi : i < [r].length := (List.getElem?_eq_some_iff.1 hs).1
  have : i = 0 := by simpa using hi
  subst this
  exact h1 0 s hs
/-- A label that is put back. -/
theorem toL_back {R : Cls} {i : Nat} (h : i < R.length) : { gc (toL 1 R) i with l := (gc R i).l } = gc R i := by
  rw [gc_toL h]
end Go.Proofs.Ytnefamgjlhdffaa.Lab
