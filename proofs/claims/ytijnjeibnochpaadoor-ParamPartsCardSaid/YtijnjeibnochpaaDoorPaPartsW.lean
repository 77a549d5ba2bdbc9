/- The Go law ParamParts: what it says of its arguments as they come in, and of the tables that its row lists. -/
import Derived.Test.YtijnjeibnochpaaDoorPaParts
import Derived.Test.YtijnjeibnochpaaDoorPaLaid
namespace Go.Proofs.YtijnjeibnochpaaDoor.Lab
open Go Go.RowKit

theorem parts_laid {W : World} (h : laidMet Tryd.prog Rows.paramPartsRow.laid W) : TB W :=
  tb_of h (List.Mem.tail _ (List.Mem.tail _ (List.Mem.head _))) (List.Mem.tail _ (List.Mem.tail _ (List.Mem.tail _ (List.Mem.head _)))) (List.Mem.tail _ (List.Mem.tail _ (List.Mem.tail _ (List.Mem.tail _ (List.Mem.head _)))))

set_option maxRecDepth 100000 in
theorem paramParts_walk {H : Type} (enc : TypeId × Value → H) (base : Nat) (W : World) (hT : TB W)
    (v0 : Value) (d0 : DataW H) (p0 : List MemPlace) (ok0 : Value.okWide Tryd.prog W .any base 22 v0) (k0 : DataW.Trod enc Tryd.prog W 0 (fun _ => true) true 22 v0 d0 p0)
    (v1 : Value) (d1 : DataW H) (p1 : List MemPlace) (ok1 : Value.okWide Tryd.prog W .any base 22 v1) (k1 : DataW.Trod enc Tryd.prog W 0 (fun _ => true) true 22 v1 d1 p1) :
    Calls Tryd.prog 5 #[v0, v1] W fun e w' => e = .returned (.bool true) ∧ Below W.heap.size W w' := by
  obtain ⟨a, len, cap, T, rfl, h1⟩ := open_bytes enc base W ok0 k0
  obtain ⟨a', len', cap', T', rfl, h2⟩ := open_bytes enc base W ok1 k1
  exact parts_any a a' len cap len' cap' T T' W h1 h2 hT
end Go.Proofs.YtijnjeibnochpaaDoor.Lab
