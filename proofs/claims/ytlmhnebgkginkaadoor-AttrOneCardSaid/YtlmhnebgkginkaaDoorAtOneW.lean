/- The Go law AttrOne: what it says of its arguments as they come in, and of the table that its row lists. -/
import Derived.Test.YtlmhnebgkginkaaDoorAtOne
import Derived.Test.YtlmhnebgkginkaaDoorAtOpen
import Derived.Test.YtlmhnebgkginkaaDoorAtLaid
namespace Go.Proofs.YtlmhnebgkginkaaDoor.Lab
open Go Go.RowKit

theorem attrOne_laid {W : World} (h : laidMet Tryd.prog Rows.attrOneRow.laid W) : Pow W :=
  pow_of h (List.Mem.tail _ (List.Mem.tail _ (List.Mem.head _)))

set_option maxRecDepth 100000 in
theorem attrOne_walk {H : Type} (enc : TypeId × Value → H) (base : Nat) (W : World) (hP : Pow W)
    (v0 : Value) (d0 : DataW H) (p0 : List MemPlace) (ok0 : Value.okWide Tryd.prog W .any base 39 v0) (k0 : DataW.Trod enc Tryd.prog W 0 (fun _ => true) true 39 v0 d0 p0)
    (v1 : Value) (d1 : DataW H) (p1 : List MemPlace) (ok1 : Value.okWide Tryd.prog W .any base 5 v1) (k1 : DataW.Trod enc Tryd.prog W 0 (fun _ => true) true 5 v1 d1 p1) :
    Calls Tryd.prog 7 #[v0, v1] W fun e w' => e = .returned (.bool true) ∧ Below W.heap.size W w' := by
  obtain ⟨d, rfl, hd⟩ := open_dr enc base W ok0 k0
  obtain ⟨n, rfl, hn⟩ := open_u8 enc base W k1 ok1
  exact one_law W d hd n hn hP
end Go.Proofs.YtlmhnebgkginkaaDoor.Lab
