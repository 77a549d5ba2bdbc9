/- The Go law TokenCopies: what it says of its arguments as they come in, and of the table that its row lists. -/
import Derived.Test.YtclaopidjfekmaaDoorToCopies
namespace Go.Proofs.YtclaopidjfekmaaDoor.Lab
open Go Go.RowKit

theorem tokenCopies_laid {W : World} (h : laidMet Tryd.prog Rows.tokenCopiesRow.laid W) : Pow W :=
  pow_of h (List.Mem.tail _ (List.Mem.tail _ (List.Mem.head _)))

set_option maxRecDepth 100000 in
theorem tokenCopies_walk {H : Type} (enc : TypeId × Value → H) (base : Nat) (W : World) (hP : Pow W)
    (v0 : Value) (d0 : DataW H) (p0 : List MemPlace) (ok0 : Value.okWide Tryd.prog W .any base 41 v0) (k0 : DataW.Trod enc Tryd.prog W 0 (fun _ => true) true 41 v0 d0 p0)
    (v1 : Value) (d1 : DataW H) (p1 : List MemPlace) (ok1 : Value.okWide Tryd.prog W .any base 41 v1) (k1 : DataW.Trod enc Tryd.prog W 0 (fun _ => true) true 41 v1 d1 p1) :
    Calls Tryd.prog 6 #[v0, v1] W fun e w' => e = .returned (.bool true) ∧ Below W.heap.size W w' := by
  obtain ⟨K, p, r, f, PP, I, d, h⟩ := open_draft enc W base ok0 k0
  obtain ⟨K', p', r', f', PP', I', d', h'⟩ := open_draft enc W base ok1 k1
  exact copies_law v0 v1 K p r f K' p' r' f' PP PP' I I' d d' W h h' hP
end Go.Proofs.YtclaopidjfekmaaDoor.Lab
