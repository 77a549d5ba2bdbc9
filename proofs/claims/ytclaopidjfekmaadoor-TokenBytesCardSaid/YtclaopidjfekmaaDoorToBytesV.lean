/- The Go law TokenBytes: what it says of its argument as it comes in, and of the table that its row lists. -/
import Derived.Test.YtclaopidjfekmaaDoorToBytesW
namespace Go.Proofs.YtclaopidjfekmaaDoor.Lab
open Go Go.RowKit

theorem tokenBytes_laid {W : World} (h : laidMet Tryd.prog Rows.tokenBytesRow.laid W) : Pow W :=
  pow_of h (List.Mem.tail _ (List.Mem.tail _ (List.Mem.head _)))

set_option maxRecDepth 100000 in
theorem tokenBytes_walk {H : Type} (enc : TypeId × Value → H) (base : Nat) (W : World) (hP : Pow W)
    (v0 : Value) (d0 : DataW H) (p0 : List MemPlace) (ok0 : Value.okWide Tryd.prog W .any base 41 v0) (k0 : DataW.Trod enc Tryd.prog W 0 (fun _ => true) true 41 v0 d0 p0) :
    Calls Tryd.prog 5 #[v0] W fun e w' => e = .returned (.bool true) ∧ Below W.heap.size W w' := by
  obtain ⟨K, p, r, f, PP, I, d, h⟩ := open_draft enc W base ok0 k0
  exact bytes_law v0 K p r f PP I d W h hP
end Go.Proofs.YtclaopidjfekmaaDoor.Lab
