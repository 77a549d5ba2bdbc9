/- A region that draws, in a plain walk: what reads may be taken first though the last operation writes what it reads. -/
import Derived.Test.YtjdfinimbdcmbaaRfHeld
set_option linter.unusedVariables false
namespace Go.Proofs.Ytjdfinimbdcmbaa.Lab
open Go Go.RowKit Go.Shelf

theorem op_wide {P : Program} {o : Oper} {a : Act} {w : World} {K : Act → World → Prop} {Q : Exit → Act → World → Prop} (n : Nat) (h : o.wp P a w K Q) : o.wpIn Fence.wide n P a w K Q := by
  refine ⟨fun _ _ => trivial, ?_⟩
  show o.uponIn Fence.wide n P a K Q ((o.semAt none a.eval).run P w)
  rw [Oper.semAt_none]
  unfold Oper.wp at h
  generalize Sem.run P (execOp a.eval o) w = r at h
  cases r with
  | ok v w' =>
    cases v with
    | value v => exact h
    | skip => exact h
    | defer d => exact h
    | enter f args => exact ⟨(fun h => by cases h), callsIn_wide.2 h⟩
    | row s args => exact ⟨(fun h => by cases h), fun c cs _ => by
        obtain ⟨v, w', hR, hs⟩ := h c cs
        exact ⟨v, w', hR, stepsIn_wide.2 hs⟩⟩
    | _ => exact h.elim
  | halt e w' => cases e <;> first | exact h | exact h.elim
section
variable {n : Nat} {P : Program} {L : List Oper} {Q : Exit → Act → World → Prop} {md : Region.Mode} {S : World → Prop}
/-- A region whose operation number x, alone, may break S. -/
theorem region_but {id : Nat} {a : Act} {w : World} (x : Nat) (hm : P.follows .mixedOrders = true) (hS : S w.drew) (h : S w.drew → heldX Fence.wide 0 P .any L.toArray Q S x L.toArray.size (Array.replicate L.toArray.size false) a w.drew) : (Code.region id L.toArray true).wp P Q a w :=
  (wpIn_wide (n := 0)).1 (region_heldX x hm h hS)
/-- Operation i alone may come up; it is not x. -/
theorem th (i : Nat) {x : Nat} {oi : Oper} {fuel : Nat} {listed : Array Bool} {a : Act} {w : World} (hi : opAtL L i = some oi) (hr : Region.ready md L.toArray listed = [i]) (hix : i ≠ x)
    (hw : Region.wanted oi (yielded L.toArray a.tmps) = true)
    (h : ∀ K' : Act → World → Prop, Shut (∀ a w, S w → (S w → heldX Fence.wide 0 P md L.toArray Q S x fuel (listed.setIfInBounds i true) a w) → K' a w) → Oper.wp P oi a w K' Q) :
    heldX Fence.wide 0 P md L.toArray Q S x (fuel + 1) listed a w := by
  refine ⟨fun e => absurd (hr.symm.trans e) (by simp), fun j hj => ?_⟩
  rw [hr] at hj
  obtain rfl := List.mem_singleton.1 hj
  refine wpOpIn_step ((opAtL_eq L j).trans hi) fun K hK => ?_
  rw [if_pos hw]
  exact op_wide 0 (h K (show Shut _ from fun a w hs q => hK a w (by rw [if_neg hix]; exact ⟨hs, q hs⟩)))
/-- x alone may come up, the last one. -/
theorem tx {x : Nat} {oi : Oper} {fuel : Nat} {listed : Array Bool} {a : Act} {w : World} (hi : opAtL L x = some oi) (hr : Region.ready md L.toArray listed = [x])
    (hw : Region.wanted oi (yielded L.toArray a.tmps) = true) (he : Region.ready md L.toArray (listed.setIfInBounds x true) = [])
    (h : ∀ K' : Act → World → Prop, Shut (∀ a w, Q .normal a w → K' a w) → Oper.wp P oi a w K' Q) :
    heldX Fence.wide 0 P md L.toArray Q S x (fuel + 1) listed a w := by
  refine dx hi hr hw fun K' hK => op_wide 0 (h K' (show Shut _ from fun a w q => hK.out a w ?_))
  cases fuel with
  | zero => exact ⟨he, q⟩
  | succ f => exact ⟨fun _ => q, fun i hi => by rw [he] at hi; cases hi⟩
end
end Go.Proofs.Ytjdfinimbdcmbaa.Lab
