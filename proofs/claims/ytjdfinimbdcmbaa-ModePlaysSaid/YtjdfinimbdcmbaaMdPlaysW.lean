/- ModePlays. -/
import Derived.Test.YtjdfinimbdcmbaaMdPlays
set_option linter.unusedVariables false
namespace Go.Proofs.Ytjdfinimbdcmbaa.Lab
open Go Go.RowKit Go.ChangeShapes Go.WideShapes

set_option maxRecDepth 100000 in
theorem modePlays_walk {H : Type} (enc : TypeId × Value → H) (base : Nat) (W : World)
    (v0 : Value) (d0 : DataW H) (p0 : List MemPlace) (ok0 : Value.okWide Try.prog W .any base 22 v0) (k0 : DataW.Trod enc Try.prog W 0 (fun _ => true) true 22 v0 d0 p0)
    (v1 : Value) (d1 : DataW H) (p1 : List MemPlace) (ok1 : Value.okWide Try.prog W .any base 24 v1) (k1 : DataW.Trod enc Try.prog W 0 (fun _ => true) true 24 v1 d1 p1) :
    Calls Try.prog 3 #[v0, v1] W fun e w' => e = .returned (.bool true) ∧ Below W.heap.size W w' := by
  obtain ⟨AL, hA⟩ := open_acs enc base W ok0 k0
  obtain ⟨⟨p, n⟩, rfl, hx⟩ := open_mo enc base W ok1 k1
  obtain ⟨la, lc, rfl⟩ := hA.shape
  exact plays_core la _ lc AL p n hx W hA
end Go.Proofs.Ytjdfinimbdcmbaa.Lab
