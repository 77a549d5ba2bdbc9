/- What the loop of the law LabelLattice keeps: two rows of the call's own beside each other, and the join and the meet of what they hold. -/
import Derived.Test.YteelegmpadfoeaaApp
import Derived.Laws.AppendOwnNone
import Derived.Test.YteelegmpadfoeaaOpen
namespace Go.Proofs.Yteelegmpadfoeaa.Lab
open Go.RowKit

abbrev LvT : TypeId := 25
abbrev lits (ys : List Int) : List Value := ys.map (Value.int .u8)

theorem grown_of_below {w w' : World} (hb : Below w.heap.size w w') (row : Option Nat) : w.grownBy w' row := ⟨hb.os, hb.tape, hb.output, hb.size, fun k hk _ => hb.block k hk⟩

theorem own_below {w w' : World} {base n : Nat} {v : Value} {xs : List Value} (h : w.ownsRow base LvT 1 v n xs) (hb : Below w.heap.size w w') : w'.ownsRow base LvT 1 v n xs :=
  h.kept (grown_of_below hb none) (by cases hv : v.ownBlock <;> simp)

theorem own_mono {w : World} {base base' n : Nat} {v : Value} {xs : List Value} (h : w.ownsRow base LvT 1 v n xs) (hb : base' ≤ base) : w.ownsRow base' LvT 1 v n xs := by
  refine ⟨h.1, ?_⟩
  rcases h.2 with h2 | ⟨g, cap, cur, hv, hg, r⟩
  · exact .inl h2
  · exact .inr ⟨g, cap, cur, hv, Nat.le_trans hb hg, r⟩

theorem own_one (w : World) (y : Int) : (w.alloc (.cells #[.int .u8 y] LvT)).ownsRow w.heap.size LvT 1 (.slice (some ⟨w.heap.size, 0, none⟩) 1 1) 1 (lits [y]) :=
  ⟨rfl, .inr ⟨w.heap.size, 1, #[.int .u8 y], rfl, Nat.le_refl _, heap_alloc_new w _, Nat.le_refl _, by unfold maxLen; omega, rfl, rfl⟩⟩

theorem lv_of_own {w : World} {base n : Nat} {v : Value} {ys : List Int} (h : w.ownsRow base LvT 1 v n (lits ys)) (hn : n ≤ 31) : ∃ a cap, v = .slice a n cap ∧ Lv w a n ys := by
  have hl : ys.length = n := by simpa using h.1
  rcases h.2 with ⟨rfl, rfl⟩ | ⟨g, cap, cur, rfl, hb, hg, hc, hcm, hcs, ht⟩
  · exact ⟨none, 0, rfl, hl, by omega, fun h0 => by omega⟩
  · refine ⟨some ⟨g, 0, none⟩, cap, rfl, hl, by omega, fun _ => ⟨g, 0, rfl, fun i hi => ?_⟩⟩
    have k := h.cells (g := g) rfl i (.int .u8 (ys[i]?.getD 0)) (by simp [lits, List.getElem?_eq_getElem (show i < ys.length by omega)])
    have hadd : (⟨g, 0, none⟩ : Addr).add i = ⟨g, 0 + i, none⟩ := Go.WideShapes.add_plain ..
    rw [hadd] at k
    exact k

theorem lits_one (ys : List Int) : ∀ u ∈ lits ys, u.oneCell' = true := by
  intro u hu
  obtain ⟨_, _, rfl⟩ := List.mem_map.1 hu
  rfl

theorem joinV_snoc (ys : List Int) (y : Int) : joinV [joinV ys, y] = joinV (ys ++ [y]) := by
  unfold joinV joinB
  cases h : (ys.any fun n => n != 0) <;> simp [List.any_append, h]
theorem meetV_snoc (ys : List Int) (y : Int) : meetV [meetV ys, y] = meetV (ys ++ [y]) := by
  unfold meetV meetB
  cases h : (ys.any fun n => n == 0) <;> simp [List.any_append, h]
theorem joinV_rev (ys : List Int) : joinV ys.reverse = joinV ys := by simp [joinV, joinB]
theorem meetV_rev (ys : List Int) : meetV ys.reverse = meetV ys := by simp [meetV, meetB]

/-- Two rows of the call's own, beside each other. -/
def Rows2 (w wr : World) (n : Nat) (rv : Value) (xs : List Int) (m : Nat) (bv : Value) (zs : List Int) : Prop :=
  wr.ownsRow w.heap.size LvT 1 rv n (lits xs) ∧ wr.ownsRow w.heap.size LvT 1 bv m (lits zs) ∧ (rv.ownBlock = none ∨ rv.ownBlock ≠ bv.ownBlock) ∧ Below w.heap.size w wr

theorem Rows2.below {w wr w' : World} {n m : Nat} {rv bv : Value} {xs zs : List Int} (h : Rows2 w wr n rv xs m bv zs) (hb : Below wr.heap.size wr w') : Rows2 w w' n rv xs m bv zs :=
  ⟨own_below h.1 hb, own_below h.2.1 hb, h.2.2.1, bstep h.2.2.2 hb⟩

/-- The row has grown by one, at its place or in a new block. -/
theorem Rows2.row {w wr w' : World} {n m : Nat} {rv bv v' : Value} {xs zs : List Int} {y : Int} (h : Rows2 w wr n rv xs m bv zs) (h1 : w'.ownsRow w.heap.size LvT 1 v' (n + 1) (lits xs ++ lits [y])) (hg : wr.grownBy w' rv.ownBlock)
    (hv : v'.ownBlock = rv.ownBlock ∨ v'.ownBlock = some wr.heap.size) : Rows2 w w' (n + 1) v' (xs ++ [y]) m bv zs := by
  obtain ⟨a, b, c, d⟩ := h
  have hsep : bv.ownBlock = none ∨ bv.ownBlock ≠ rv.ownBlock := by
    rcases c with c | c
    · cases hb : bv.ownBlock
      · exact .inl rfl
      · exact .inr (by rw [c]; simp)
    · exact .inr fun e => c e.symm
  refine ⟨by simpa using h1, b.kept hg hsep, ?_, d.grown hg d.size fun k hk => (a.lt k hk).1⟩
  rcases hv with hv | hv
  · rw [hv]; exact c
  · right
    rw [hv]
    intro e
    have := (b.lt _ e.symm).2
    omega

/-- The one behind has been laid anew. -/
theorem Rows2.back {w wr w' : World} {n m m' : Nat} {rv bv v' : Value} {xs zs zs' : List Int} (h : Rows2 w wr n rv xs m bv zs) (h1 : w'.ownsRow wr.heap.size LvT 1 v' m' (lits zs')) (hb : Below wr.heap.size wr w') : Rows2 w w' n rv xs m' v' zs' := by
  obtain ⟨a, _, _, d⟩ := h
  refine ⟨own_below a hb, own_mono h1 d.size, ?_, bstep d hb⟩
  cases hr : rv.ownBlock with
  | none => exact .inl rfl
  | some k =>
    right
    intro e
    have h2 := (h1.lt k e.symm).1
    have h3 := (a.lt k hr).2
    omega
end Go.Proofs.Yteelegmpadfoeaa.Lab
