/- The Go law AttrSgr: what it says of its arguments as they come in, and of the table that its row lists. -/
import Derived.Test.YtlmhnebgkginkaaDoorAtSgrL
import Derived.Test.YtlmhnebgkginkaaDoorAtOpen
import Derived.Test.YtlmhnebgkginkaaDoorAtLaid
namespace Go.Proofs.YtlmhnebgkginkaaDoor.Lab
open Go Go.RowKit

theorem attrSgr_laid {W : World} (h : laidMet Tryd.prog Rows.attrSgrRow.laid W) : Pow W :=
  pow_of h (List.Mem.tail _ (List.Mem.tail _ (List.Mem.head _)))

set_option maxRecDepth 100000 in
theorem attrSgr_walk {H : Type} (enc : TypeId × Value → H) (base : Nat) (W : World) (hP : Pow W)
    (v0 : Value) (d0 : DataW H) (p0 : List MemPlace) (ok0 : Value.okWide Tryd.prog W .any base 26 v0) (k0 : DataW.Trod enc Tryd.prog W 0 (fun _ => true) true 26 v0 d0 p0)
    (v1 : Value) (d1 : DataW H) (p1 : List MemPlace) (ok1 : Value.okWide Tryd.prog W .any base 27 v1) (k1 : DataW.Trod enc Tryd.prog W 0 (fun _ => true) true 27 v1 d1 p1)
    (v2 : Value) (d2 : DataW H) (p2 : List MemPlace) (ok2 : Value.okWide Tryd.prog W .any base 28 v2) (k2 : DataW.Trod enc Tryd.prog W 0 (fun _ => true) true 28 v2 d2 p2) :
    Calls Tryd.prog 3 #[v0, v1, v2] W fun e w' => e = .returned (.bool true) ∧ Below W.heap.size W w' := by
  obtain ⟨a, rfl, ha⟩ := open_att enc base W ok0 k0
  obtain ⟨P, hM, hI⟩ := open_rows enc base W ok1 k1
  obtain ⟨l, hl⟩ := open_s16 enc base W ok2 k2
  exact sgr_law W a ha v1 P hM hI v2 l hl hP
end Go.Proofs.YtlmhnebgkginkaaDoor.Lab
