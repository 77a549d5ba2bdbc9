/- The Go law TokenTells: what it says of its arguments as they come in, of no more than the form's own reach, and of the table that its row lists. -/
import Derived.Test.YtclaopidjfekmaaDoorToTell
namespace Go.Proofs.YtclaopidjfekmaaDoor.Lab
open Go Go.RowKit Go.ChangeShapes

theorem tokenTells_laid {W : World} (h : laidMet Tryd.prog Rows.tokenTellsRow.laid W) : Pow W :=
  pow_of h (List.Mem.tail _ (List.Mem.tail _ (List.Mem.head _)))

set_option maxRecDepth 100000 in
theorem tokenTells_walk {H : Type} (enc : TypeId × Value → H) (base : Nat) (W : World) (hP : Pow W)
    (v0 : Value) (d0 : DataW H) (p0 : List MemPlace) (ok0 : Value.okWide Tryd.prog W .any base 22 v0) (k0 : DataW.Trod enc Tryd.prog W 0 (fun _ => true) true 22 v0 d0 p0)
    (v1 : Value) (d1 : DataW H) (p1 : List MemPlace) (ok1 : Value.okWide Tryd.prog W .any base 23 v1) (k1 : DataW.Trod enc Tryd.prog W 0 (fun _ => true) true 23 v1 d1 p1) (hf : Fits 22 d0) :
    Calls Tryd.prog 3 #[v0, v1] W fun e w' => e = .returned (.bool true) ∧ Below W.heap.size W w' := by
  obtain ⟨a, len, cap, T, rfl, hT⟩ := open_toks enc W base ok0 k0 hf
  obtain ⟨a', len', cap', D, rfl, hD⟩ := open_drafts enc W base ok1 k1
  exact tells_law a len cap T a' len' cap' D W hT hD hP
end Go.Proofs.YtclaopidjfekmaaDoor.Lab
