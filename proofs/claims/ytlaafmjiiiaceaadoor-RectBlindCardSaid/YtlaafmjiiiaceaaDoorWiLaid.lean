/- From what the rows list of package width's tables to the cells that the walks read. -/
import Derived.Test.YtlaafmjiiiaceaaDoorWiTab
import Derived.Test.YtlaafmjiiiaceaaDoorRows
import Derived.Lib.LaidU8
namespace Go.Proofs.YtlaafmjiiiaceaaDoor.Lab
open Go Go.RowKit Go.Lib

def pairsData (l : List (Int × Int)) : DataW Unit := .agg (l.map fun p => .agg ([p.1, p.2].map fun z => .lit (.int .i32 z)))

theorem tab_of_reads {P : Program} {w : World} {name : String} {g t e e' n : Nat} (l : List (Int × Int)) (hg : P.globalNamed name = some g) (hty : (P.globals[g]?).map (·.type) = some t)
    (ht : P.underlying t = some (.array n e)) (he : P.underlying e = some (.array 2 e')) (hi : P.underlying e' = some (.int .i32)) (c : P.cellsOf e = 2) (c' : P.cellsOf e' = 1) (hl : l.length = n) (hn : 0 < n)
    (h : VarReads P w name (pairsData l)) : TabAt w g l := by
  obtain ⟨g', t', cs, fuel, p, hg', hty', hvar, hd⟩ := h
  obtain rfl := Option.some.inj (hg.symm.trans hg')
  obtain rfl := Option.some.inj (hty.symm.trans hty')
  have key : ∀ i, i < l.length → w.cell? ⟨g, i * 2, none⟩ = some (.int .i32 (loT l i)) ∧ w.cell? ⟨g, i * 2 + 1, none⟩ = some (.int .i32 (hiT l i)) := by
    intro i hil
    obtain ⟨fuel', d, q, hdi, hel⟩ := array_elem ht hd i (by omega)
    simp only [List.getElem?_map, List.getElem?_eq_getElem hil, Option.map_some, Option.some.injEq] at hdi
    subst hdi
    rw [c] at hel
    have hcs := cells_of_tab he hi c' c (zs := [l[i].1, l[i].2]) hel
    have e0 := congrArg (·[0]?) hcs
    have e1 := congrArg (·[1]?) hcs
    simp only [List.getElem?_take, List.getElem?_drop] at e0 e1
    constructor
    · rw [World.var?_cell hg hvar (i * 2), ← Array.getElem?_toList]
      simpa [loT, List.getElem?_eq_getElem hil] using e0
    · rw [World.var?_cell hg hvar (i * 2 + 1), ← Array.getElem?_toList]
      simpa [hiT, List.getElem?_eq_getElem hil] using e1
  refine ⟨?_, key⟩
  exact World.block_lt_of_cell? (a := ⟨g, 0 * 2, none⟩) w (key 0 (by omega)).1

theorem tabs_of_laid {w : World} {l : List (String × DataW Unit)} (h : laidMet Tryd.prog l w) (m0 : ("marquee/width.unshown", Rows.laid_marquee_width_unshown) ∈ l) (m1 : ("marquee/width.marks", Rows.laid_marquee_width_marks) ∈ l)
    (m2 : ("marquee/width.broad", Rows.laid_marquee_width_broad) ∈ l) : Tabs w :=
  ⟨tab_of_reads (g := 0) (t := 112) (e := 56) (e' := 21) (n := 4) unshownT (by kernel_rfl) (by kernel_rfl) (by kernel_rfl) (by kernel_rfl) (by kernel_rfl) (by kernel_rfl) (by kernel_rfl) rfl (by decide) (laidMet.reads h m0),
   tab_of_reads (g := 1) (t := 114) (e := 56) (e' := 21) (n := 32) marksT (by kernel_rfl) (by kernel_rfl) (by kernel_rfl) (by kernel_rfl) (by kernel_rfl) (by kernel_rfl) (by kernel_rfl) rfl (by decide) (laidMet.reads h m1),
   tab_of_reads (g := 2) (t := 115) (e := 56) (e' := 21) (n := 15) broadT (by kernel_rfl) (by kernel_rfl) (by kernel_rfl) (by kernel_rfl) (by kernel_rfl) (by kernel_rfl) (by kernel_rfl) rfl (by decide) (laidMet.reads h m2)⟩
end Go.Proofs.YtlaafmjiiiaceaaDoor.Lab
