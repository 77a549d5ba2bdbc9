/- TabsSizes. -/
import Derived.Test.YtmdpdogjpdkanaaTbSizes
set_option linter.unusedVariables false
namespace Go.Proofs.Ytmdpdogjpdkanaa.Lab
open Go Go.RowKit Go.ChangeShapes Go.WideShapes

set_option maxRecDepth 100000 in
theorem tabsSizes_walk {H : Type} (enc : TypeId × Value → H) (base : Nat) (W : World)
    (v0 : Value) (d0 : DataW H) (p0 : List MemPlace) (ok0 : Value.okWide Try.prog W .any base 57 v0) (k0 : DataW.Trod enc Try.prog W 0 (fun _ => true) true 57 v0 d0 p0)
    (v1 : Value) (d1 : DataW H) (p1 : List MemPlace) (ok1 : Value.okWide Try.prog W .any base 23 v1) (k1 : DataW.Trod enc Try.prog W 0 (fun _ => true) true 23 v1 d1 p1) :
    Calls Try.prog 7 #[v0, v1] W fun e w' => e = .returned (.bool true) ∧ Below W.heap.size W w' := by
  obtain ⟨x, y, z, rfl, hx, hy, hz⟩ := open_a3 enc base W ok0 k0
  obtain ⟨AL, hA⟩ := open_acs enc base W ok1 k1
  obtain ⟨la, lc, rfl⟩ := hA.shape
  exact sizes_core x y z hx hy hz la _ lc AL W hA
end Go.Proofs.Ytmdpdogjpdkanaa.Lab
