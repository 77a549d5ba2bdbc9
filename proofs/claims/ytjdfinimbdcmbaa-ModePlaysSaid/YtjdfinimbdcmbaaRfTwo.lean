/- A region that draws, its last operation x a store, beside which an operation that reads nothing may still come up. -/
import Derived.Test.YtjdfinimbdcmbaaRfTake
set_option linter.unusedVariables false
namespace Go.Proofs.Ytjdfinimbdcmbaa.Lab
open Go Go.RowKit Go.Shelf
section
variable {n : Nat} {P : Program} {L : List Oper} {Q : Exit → Act → World → Prop} {md : Region.Mode} {S : World → Prop}
theorem wp_value {o : Oper} {a : Act} {w w' : World} {v : Value} {K : Act → World → Prop} (h : (execOp a.eval o).run P w = .ok (.value v) w') (k : K (a.put o.dst v) w') : Oper.wp P o a w K Q := by
  unfold Oper.wp
  rw [h]
  exact k
/-- Operations i and x alone may come up, in either order: i reads nothing, x stores, and yields nothing. -/
theorem txi (i : Nat) {x : Nat} {oi ox : Oper} {v : Value} {fuel : Nat} {listed : Array Bool} {a : Act} {w w7 : World} (hi : opAtL L i = some oi) (hx : opAtL L x = some ox) (hr : Region.ready md L.toArray listed = [i, x]) (hix : i ≠ x)
    (hr1 : Region.ready md L.toArray (listed.setIfInBounds i true) = [x]) (hr2 : Region.ready md L.toArray (listed.setIfInBounds x true) = [i])
    (he1 : Region.ready md L.toArray ((listed.setIfInBounds i true).setIfInBounds x true) = []) (he2 : Region.ready md L.toArray ((listed.setIfInBounds x true).setIfInBounds i true) = [])
    (hwi : Region.wanted oi (yielded L.toArray a.tmps) = true) (hwx : Region.wanted ox (yielded L.toArray a.tmps) = true) (hwx2 : Region.wanted ox (yielded L.toArray (a.put oi.dst v).tmps) = true) (hS : S w)
    (hy : ∀ w, (execOp a.eval oi).run P w = .ok (.value v) w) (h1 : ∀ K' : Act → World → Prop, K' (a.put oi.dst v) w7 → Oper.wp P ox (a.put oi.dst v) w K' Q) (h2 : ∀ K' : Act → World → Prop, K' a w7 → Oper.wp P ox a w K' Q)
    (hQ : Q .normal (a.put oi.dst v) w7) : heldX Fence.wide 0 P md L.toArray Q S x (fuel + 1 + 1) listed a w := by
  refine ⟨fun e => absurd (hr.symm.trans e) (by simp), fun m hm => ?_⟩
  rw [hr] at hm
  rcases List.mem_cons.1 hm with rfl | hm
  · refine wpOpIn_step ((opAtL_eq L m).trans hi) fun K hK => ?_
    rw [if_pos hwi]
    refine op_wide 0 (wp_value (hy w) (hK _ _ ?_))
    rw [if_neg hix]
    exact ⟨hS, tx hx hr1 hwx2 he1 (fun K' hK' => h1 K' (hK'.out _ _ hQ))⟩
  · obtain rfl := List.mem_singleton.1 hm
    refine wpOpIn_step ((opAtL_eq L m).trans hx) fun K hK => ?_
    rw [if_pos hwx]
    refine op_wide 0 (h2 K (hK _ _ ?_))
    rw [if_pos rfl]
    refine d1 hi hr2 hwi (fun K' hK' => op_wide 0 (wp_value (hy w7) (hK'.out _ _ ?_)))
    cases fuel with
    | zero => exact ⟨he2, hQ⟩
    | succ f => exact ⟨fun _ => hQ, fun i hi => by rw [he2] at hi; cases hi⟩
end
end Go.Proofs.Ytjdfinimbdcmbaa.Lab
