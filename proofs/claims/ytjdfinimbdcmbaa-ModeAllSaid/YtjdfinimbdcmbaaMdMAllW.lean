/- ModeAll. -/
import Derived.Test.YtjdfinimbdcmbaaMdMAll
set_option linter.unusedVariables false
namespace Go.Proofs.Ytjdfinimbdcmbaa.Lab
open Go Go.RowKit Go.ChangeShapes Go.WideShapes

set_option maxRecDepth 100000 in
theorem modeAll_walk {H : Type} (enc : TypeId × Value → H) (base : Nat) (W : World)
    (v0 : Value) (d0 : DataW H) (p0 : List MemPlace) (ok0 : Value.okWide Try.prog W .any base 22 v0) (k0 : DataW.Trod enc Try.prog W 0 (fun _ => true) true 22 v0 d0 p0) :
    Calls Try.prog 5 #[v0] W fun e w' => e = .returned (.bool true) ∧ Below W.heap.size W w' := by
  obtain ⟨AL, hA⟩ := open_acs enc base W ok0 k0
  obtain ⟨la, lc, rfl⟩ := hA.shape
  exact mall_core la _ lc AL W hA
end Go.Proofs.Ytjdfinimbdcmbaa.Lab
